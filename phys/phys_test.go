package phys_test

import (
	"bytes"
	"math"
	"slices"
	"strconv"
	"testing"

	"trunnion/api"
	"trunnion/phys"
)

// Those that call a memory through package api know it as these.
var (
	_ api.Loader = (*phys.Memory)(nil)
	_ api.Bytes  = (*phys.Memory)(nil)
)

// model is a memory as the chapter says it: its size, and those of its bytes that are not 0.
type model struct {
	size int
	at   map[int]byte
}

func newModel(pages int) *model {
	return &model{size: min(max(pages, 0), 256) * 4096, at: map[int]byte{}}
}

// holds is whether n bytes are there from addr on; looked at one end after the other.
func (m *model) holds(addr, n int) bool {
	switch {
	case addr < 0 || n < 0:
		return false
	case addr > m.size || n > m.size:
		return false
	}
	return addr+n <= m.size
}

// fits is whether a number of that size can stand at addr.
func (m *model) fits(addr, size int) bool {
	return (size == 1 || size == 2 || size == 4) && addr%size == 0 && m.holds(addr, size)
}

func (m *model) load(addr, size int) (int, bool) {
	if !m.fits(addr, size) {
		return 0, false
	}
	v, weight := 0, 1
	for k := range size {
		v += weight * int(m.at[addr+k])
		weight *= 256
	}
	return v, true
}

func (m *model) store(addr, size, v int) bool {
	if !m.fits(addr, size) {
		return false
	}
	w := uint64(v)
	for k := range size {
		m.at[addr+k] = byte(w % 256)
		w /= 256
	}
	return true
}

func (m *model) get(addr, n int) []byte {
	if !m.holds(addr, n) {
		return nil
	}
	var b []byte
	for k := range n {
		b = append(b, m.at[addr+k])
	}
	return b
}

func (m *model) put(addr int, b []byte) bool {
	if !m.holds(addr, len(b)) {
		return false
	}
	for k, c := range b {
		m.at[addr+k] = c
	}
	return true
}

// places are addresses about the ends of a memory and of its pages, and far from it.
func places(size int) []int {
	list := []int{math.MinInt, math.MinInt + 4, math.MinInt / 2, -1 << 32, -4096, math.MaxInt - 7, math.MaxInt - 4, math.MaxInt - 3, math.MaxInt - 1, math.MaxInt, 1 << 31, 1<<32 - 4, 1 << 32, 1<<32 + 4, 1 << 62, api.Mmio}
	for _, edge := range []int{0, 4096, size / 2, size} {
		for d := -9; d <= 9; d++ {
			list = append(list, edge+d)
		}
	}
	return list
}

// sizes are sizes of loads and stores, and others.
var sizes = []int{math.MinInt, -1 << 32, -4, -2, -1, 0, 1, 2, 3, 4, 5, 6, 7, 8, 16, 1<<32 + 1, 1<<32 + 4, 1 << 62, math.MaxInt}

// values are what is stored: words and other ints.
var values = []int{0, 1, 0x80, 0xFF, 0x100, 0x8000, 0xFFFF, 0x01020304, 0x80000000, 0xFFFFFFFF, 1 << 32, 1<<32 + 0x55AA, -1, -2, -0x0102030405060708, math.MinInt, math.MaxInt}

// filled is a memory in which no two neighbours are the same, and its model.
func filled(pages int) (*phys.Memory, *model) {
	m, w := phys.New(pages), newModel(pages)
	for addr := range m.Size() {
		v := addr*7 + addr/256*3 + 1
		m.Store(addr, 1, v)
		w.store(addr, 1, v)
	}
	return m, w
}

// whole is all that is in a memory.
func whole(m *phys.Memory) []byte { return m.Get(0, m.Size()) }

func TestP401Examples(t *testing.T) {
	m := phys.New(1)
	if !m.Store(4, 4, 0x01020304) {
		t.Error("P401: Store(4, 4, 0x01020304): false")
	}
	if v, ok := m.Load(5, 2); v != 0 || ok {
		t.Errorf("P401: Load(5, 2): %d, %v, want false", v, ok)
	}
	if v, ok := m.Load(5, 1); v != 3 || !ok {
		t.Errorf("P401: Load(5, 1): %d, %v, want 3", v, ok)
	}
	if b := m.Get(3, 6); !slices.Equal(b, []byte{0, 4, 3, 2, 1, 0}) {
		t.Errorf("P401: the lowest byte first: %v", b)
	}
}

func TestP401New(t *testing.T) {
	for _, x := range []struct{ pages, size int }{
		{0, 0}, {1, 4096}, {2, 8192}, {3, 12288}, {255, 255 * 4096}, {256, 1 << 20},
		{257, 1 << 20}, {1000, 1 << 20}, {1 << 32, 1 << 20}, {1<<52 + 1, 1 << 20}, {math.MaxInt, 1 << 20},
		{-1, 0}, {-4096, 0}, {-1 << 52, 0}, {math.MinInt, 0},
	} {
		m := phys.New(x.pages)
		if got := m.Size(); got != x.size {
			t.Errorf("P401: %d pages: %d bytes, want %d", x.pages, got, x.size)
		}
		b := whole(m)
		if len(b) != x.size || bytes.Count(b, []byte{0}) != x.size {
			t.Errorf("P401: %d pages: they are not all 0", x.pages)
		}
	}
}

func TestP401Load(t *testing.T) {
	for _, pages := range []int{-1, 0, 1, 3, 256} {
		m, w := filled(pages)
		for _, addr := range places(w.size) {
			for _, size := range sizes {
				v, ok := m.Load(addr, size)
				wv, wok := w.load(addr, size)
				if v != wv || ok != wok {
					t.Errorf("P401: of %d pages: Load(%d, %d): %#x, %v, want %#x, %v", pages, addr, size, v, ok, wv, wok)
				}
			}
		}
	}
}

func TestP401Store(t *testing.T) {
	for _, pages := range []int{0, 1, 3} {
		m, w := filled(pages)
		for _, addr := range places(w.size) {
			for k, size := range sizes {
				for _, v := range values[k%5:] {
					if got, want := m.Store(addr, size, v), w.store(addr, size, v); got != want {
						t.Errorf("P401: of %d pages: Store(%d, %d, %#x): %v, want %v", pages, addr, size, v, got, want)
					}
					wv, _ := w.load(addr, size)
					if got, _ := m.Load(addr, size); got != wv {
						t.Errorf("P401: of %d pages: after Store(%d, %d, %#x): %#x, want %#x", pages, addr, size, v, got, wv)
					}
				}
			}
		}
		if !bytes.Equal(whole(m), w.get(0, w.size)) {
			t.Errorf("P401: of %d pages: a store wrote elsewhere", pages)
		}
	}
}

func TestP401Get(t *testing.T) {
	for _, pages := range []int{0, 1, 3} {
		m, w := filled(pages)
		counts := append([]int{4095, 4096, 4097, w.size - 1, w.size, w.size + 1}, sizes...)
		for _, addr := range places(w.size) {
			for _, n := range counts {
				if got, want := m.Get(addr, n), w.get(addr, n); !bytes.Equal(got, want) {
					t.Errorf("P401: of %d pages: Get(%d, %d): %d bytes, want %d", pages, addr, n, len(got), len(want))
				}
			}
		}
	}
}

func TestP401Put(t *testing.T) {
	for _, pages := range []int{0, 1, 3} {
		m, w := filled(pages)
		for k, n := range []int{0, 1, 2, 3, 4, 5, 64, 4095, 4096, 4097, w.size, w.size + 1} {
			b := slices.Repeat([]byte{byte(0xE0 + k), byte(k)}, n)[:n]
			for _, addr := range places(w.size) {
				if got, want := m.Put(addr, b), w.put(addr, b); got != want {
					t.Errorf("P401: of %d pages: Put(%d, %d bytes): %v, want %v", pages, addr, n, got, want)
				}
			}
			if !bytes.Equal(whole(m), w.get(0, w.size)) {
				t.Errorf("P401: of %d pages: Put of %d bytes wrote something else", pages, n)
			}
		}
	}
}

// TestP401Refused: what is not there changes nothing, not even the bytes of it that are there.
func TestP401Refused(t *testing.T) {
	m, _ := filled(1)
	before := whole(m)
	for _, ok := range []bool{
		m.Store(4096, 1, 1), m.Store(4095, 2, 1), m.Store(4094, 4, 1), m.Store(-1, 1, 1), m.Store(-4, 4, 1), m.Store(1, 2, 1), m.Store(2, 4, 1), m.Store(0, 3, 1), m.Store(0, 8, 1),
		m.Put(4095, []byte{1, 2}), m.Put(-1, []byte{1, 2}), m.Put(0, make([]byte, 4097)), m.Put(math.MaxInt, []byte{1}), m.Put(-1, nil), m.Put(4097, nil),
	} {
		if ok {
			t.Error("P401: true of what is not there")
		}
	}
	if !m.Put(0, nil) || !m.Put(4096, []byte{}) {
		t.Error("P401: false of no bytes within the memory")
	}
	if !bytes.Equal(whole(m), before) {
		t.Error("P401: what was refused changed the memory")
	}
}

// TestP401Play plays a long row of calls on a memory and on its model.
func TestP401Play(t *testing.T) {
	m, w := phys.New(2), newModel(2)
	at := uint32(1)
	next := func(below int) int {
		at = at*1664525 + 1013904223
		return int(at>>8) % below
	}
	for k := range 20000 {
		addr, size, v := next(8200)-4, next(6)-1, next(1<<24)<<9|k&511
		switch next(4) {
		case 0:
			got, ok := m.Load(addr, size)
			if want, wok := w.load(addr, size); got != want || ok != wok {
				t.Fatalf("P401: call %d: Load(%d, %d): %#x, %v, want %#x, %v", k, addr, size, got, ok, want, wok)
			}
		case 1:
			if got, want := m.Store(addr, size, v), w.store(addr, size, v); got != want {
				t.Fatalf("P401: call %d: Store(%d, %d, %#x): %v, want %v", k, addr, size, v, got, want)
			}
		case 2:
			if got, want := m.Get(addr, size*3), w.get(addr, size*3); !bytes.Equal(got, want) {
				t.Fatalf("P401: call %d: Get(%d, %d): %v, want %v", k, addr, size*3, got, want)
			}
		case 3:
			b := []byte(strconv.Itoa(v))
			if got, want := m.Put(addr, b), w.put(addr, b); got != want {
				t.Fatalf("P401: call %d: Put(%d, %v): %v, want %v", k, addr, b, got, want)
			}
		}
	}
	if !bytes.Equal(whole(m), w.get(0, w.size)) {
		t.Error("P401: the memory ends otherwise than its model")
	}
}

// TestP402Get: what Get told is the caller's, its spare room too; a later store leaves it.
func TestP402Get(t *testing.T) {
	m, _ := filled(1)
	before := whole(m)
	a, b := m.Get(8, 8), m.Get(8, 8)
	kept := slices.Clone(a)
	for k := range b {
		b[k] = ^b[k]
	}
	clear(b[len(b):cap(b)])
	_ = append(b, 0xEE, 0xEE)
	if !bytes.Equal(a, kept) {
		t.Error("P402: two answers share bytes")
	}
	if !bytes.Equal(whole(m), before) {
		t.Error("P402: an answer shares bytes with the memory")
	}
	m.Store(8, 4, ^0)
	m.Put(12, []byte{9, 9, 9, 9})
	if !bytes.Equal(a, kept) {
		t.Error("P402: a later call changed what was answered")
	}
}

// TestP402Put: what is handed in is neither kept nor changed, nor its spare room.
func TestP402Put(t *testing.T) {
	m := phys.New(1)
	room := []byte{1, 2, 3, 4, 5, 6, 7, 8}
	if !m.Put(0, room[:4]) || !m.Put(4092, room[2:6]) || m.Put(4094, room[:4]) {
		t.Fatal("P402: Put")
	}
	if !slices.Equal(room, []byte{1, 2, 3, 4, 5, 6, 7, 8}) {
		t.Errorf("P402: Put changed what was handed in: %v", room)
	}
	clear(room)
	m.Store(0, 1, 77)
	if !slices.Equal(m.Get(0, 6), []byte{77, 2, 3, 4, 0, 0}) || !slices.Equal(m.Get(4092, 4), []byte{3, 4, 5, 6}) {
		t.Error("P402: Put keeps what was handed in, or put more than that")
	}
	if !slices.Equal(room, make([]byte, 8)) {
		t.Errorf("P402: a later Store changed what was handed in: %v", room)
	}
}

func TestP402Memories(t *testing.T) {
	a, b := phys.New(2), phys.New(2)
	a.Store(0, 4, 0x11223344)
	b.Put(4096, []byte{5, 6, 7})
	if v, _ := b.Load(0, 4); v != 0 {
		t.Errorf("P402: a store into one memory is seen in another: %#x", v)
	}
	if v, _ := a.Load(4096, 4); v != 0 {
		t.Errorf("P402: what is put into one memory is seen in another: %#x", v)
	}
	for k, c := range whole(phys.New(2)) {
		if c != 0 {
			t.Fatalf("P402: a new memory has %d at %d", c, k)
		}
	}
}
