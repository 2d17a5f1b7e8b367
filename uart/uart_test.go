package uart_test

import (
	"math"
	"slices"
	"sync"
	"testing"

	"trunnion/uart"
)

// none is what the document tells of a load where no byte waits.
const none = 0xFFFFFFFF

// low is a number's lowest eight bits, found by division.
func low(n int) int { return (n%256 + 256) % 256 }

// model is a Uart as the chapter says it: a row of bytes that wait, from whose front one is taken, and a row of those written out.
type model struct{ waits, wrote []int }

func (m *model) in(b int) bool {
	if len(m.waits) == 16 {
		return false
	}
	m.waits = append(slices.Clone(m.waits), low(b))
	return true
}

func (m *model) load(off int) (int, bool) {
	switch off {
	case 0:
		return 0, true
	case 4:
		if len(m.waits) == 0 {
			return none, true
		}
		b := m.waits[0]
		m.waits = m.waits[1:]
		return b, true
	case 8:
		return len(m.waits), true
	}
	return 0, false
}

func (m *model) store(off, v int) bool {
	if off == 0 {
		m.wrote = append(m.wrote, low(v))
	}
	return off == 0 || off == 4 || off == 8
}

// The kinds of calls.
const (
	in = iota
	load
	store
	drop
)

// call is one call of a played row: of what kind, at which offset, with which number.
type call struct{ kind, off, n int }

// told is what one call answers, and what can be told after it without a change.
type told struct {
	n       int
	ok      bool
	waiting int
	loaded  int
	wrote   int
}

func ask(u *uart.Uart, c call) told {
	var x told
	switch c.kind {
	case in:
		x.ok = u.In(c.n)
	case load:
		x.n, x.ok = u.Load(c.off)
	case store:
		x.ok = u.Store(c.off, c.n)
	case drop:
		u.Clear()
	}
	x.waiting = u.Waiting()
	x.loaded, _ = u.Load(8)
	x.wrote = len(u.Out())
	return x
}

func askModel(m *model, c call) told {
	var x told
	switch c.kind {
	case in:
		x.ok = m.in(c.n)
	case load:
		x.n, x.ok = m.load(c.off)
	case store:
		x.ok = m.store(c.off, c.n)
	case drop:
		m.waits = nil
	}
	x.waiting, x.loaded, x.wrote = len(m.waits), len(m.waits), len(m.wrote)
	return x
}

// row makes n calls by a rule: of sixteen about so many are bytes that come as ins says, the others loads and stores, mostly where something is, and now and then a Clear.
func row(seed uint32, n, ins int) []call {
	next := func(below int) int {
		seed = seed*1664525 + 1013904223
		return int(seed>>8) % below
	}
	var list []call
	for range n {
		c := call{in, 4*next(3) + next(16)/15, next(1<<20) - 1<<19}
		if k := next(16); k >= ins {
			c.kind = load + k%2
			if next(40) == 0 {
				c.kind = drop
			}
		}
		list = append(list, c)
	}
	return list
}

// wrote holds what was written out to these bytes.
func wrote(t *testing.T, u *uart.Uart, want ...int) {
	t.Helper()
	got := u.Out()
	if len(got) != len(want) {
		t.Errorf("P701: Out: %v, want %v", got, want)
		return
	}
	for k, b := range got {
		if int(b) != want[k] {
			t.Errorf("P701: Out, at %d: %d, want %d", k, b, want[k])
			return
		}
	}
}

// waits holds the bytes that wait to these, and takes them all.
func waits(t *testing.T, u *uart.Uart, want ...int) {
	t.Helper()
	for k, b := range want {
		if u.Waiting() != len(want)-k {
			t.Errorf("P701: Waiting: %d, want %d", u.Waiting(), len(want)-k)
		}
		if n, ok := u.Load(8); n != len(want)-k || !ok {
			t.Errorf("P701: Load(8): %d, %v, want %d", n, ok, len(want)-k)
		}
		if n, ok := u.Load(4); n != b || !ok {
			t.Errorf("P701: Load(4), the byte %d of %v: %d, %v", k, want, n, ok)
		}
	}
	for range 2 {
		if n, ok := u.Load(4); n != none || !ok || u.Waiting() != 0 {
			t.Errorf("P701: Load(4), when none waits: %d, %v; %d wait", n, ok, u.Waiting())
		}
	}
}

func TestP701Examples(t *testing.T) {
	var u uart.Uart
	if !u.In(65) {
		t.Error("P701: In(65): false")
	}
	if n, ok := u.Load(4); n != 65 || !ok {
		t.Errorf("P701: Load(4): %d, %v, want 65", n, ok)
	}
	if n, ok := u.Load(4); n != 0xFFFFFFFF || !ok {
		t.Errorf("P701: Load(4): %d, %v, want 0xFFFFFFFF", n, ok)
	}
}

func TestP701Zero(t *testing.T) {
	var u uart.Uart
	if len(u.Out()) != 0 || u.Waiting() != 0 {
		t.Errorf("P701: the zero Uart: %v, %d wait", u.Out(), u.Waiting())
	}
	for _, x := range []struct{ off, n int }{{0, 0}, {8, 0}, {4, none}, {8, 0}, {4, none}} {
		if n, ok := u.Load(x.off); n != x.n || !ok {
			t.Errorf("P701: the zero Uart: Load(%d): %d, %v, want %d", x.off, n, ok, x.n)
		}
	}
	u.Clear()
	if len(u.Out()) != 0 || u.Waiting() != 0 {
		t.Errorf("P701: the zero Uart, cleared: %v, %d wait", u.Out(), u.Waiting())
	}
}

// TestP701Bytes: of what comes and of what is stored the lowest eight bits count, of any int.
func TestP701Bytes(t *testing.T) {
	list := []int{0, 1, 65, 127, 128, 255, 256, 257, 511, 512, 0x1234, 1<<32 - 1, 1 << 32, 1<<32 + 7, 1 << 62, -1, -2, -128, -255, -256, -257, -1 << 32, math.MinInt, math.MinInt + 9, math.MaxInt}
	for b := range 256 {
		list = append(list, b)
	}
	var u uart.Uart
	var want []int
	for _, b := range list {
		if !u.In(b) {
			t.Errorf("P701: In(%d): false", b)
		}
		waits(t, &u, low(b))
		if !u.Store(0, b) {
			t.Errorf("P701: Store(0, %d): false", b)
		}
		want = append(want, low(b))
	}
	wrote(t, &u, want...)
}

// TestP701Full: sixteen wait; the next ones are lost, those that wait stay as they are. From each place of the first on.
func TestP701Full(t *testing.T) {
	for first := range 40 {
		var u uart.Uart
		for range first {
			u.In(1)
			u.Load(4)
		}
		var want []int
		for b := range 16 {
			want = append(want, 100+b)
			if !u.In(100 + b) {
				t.Errorf("P701: In, when %d wait: false", b)
			}
			if u.Waiting() != b+1 {
				t.Errorf("P701: Waiting: %d, want %d", u.Waiting(), b+1)
			}
		}
		for b := range 20 {
			if u.In(200+b) || u.Waiting() != 16 {
				t.Errorf("P701: In, when sixteen wait: true, or %d wait", u.Waiting())
			}
		}
		if n, _ := u.Load(4); n != 100 || !u.In(50) || u.In(51) {
			t.Errorf("P701: one taken (%d), one comes", n)
		}
		waits(t, &u, append(want[1:], 50)...)
		wrote(t, &u)
	}
}

// TestP701Offsets: beside 0, 4 and 8 there is nothing, and nothing happens.
func TestP701Offsets(t *testing.T) {
	list := []int{-1, -4, -8, -12, -256, 1, 2, 3, 5, 6, 7, 9, 10, 11, 12, 16, 20, 256, 1 << 31, 1<<31 + 4, 1<<32 - 8, 1<<32 - 4, 1 << 32, 1<<32 + 4, 1<<32 + 8, -1 << 32, 4 - 1<<32, 8 - 1<<32, 1 << 62, math.MinInt, math.MinInt + 4, math.MinInt + 8, math.MaxInt, math.MaxInt - 3, 0xF0000000, 0xF0000004}
	for off := range 200 {
		list = append(list, off+9, -1-off)
	}
	for _, off := range list {
		var u uart.Uart
		u.In(65)
		u.In(66)
		u.Store(0, 7)
		if n, ok := u.Load(off); n != 0 || ok {
			t.Errorf("P701: Load(%d): %d, %v, want false", off, n, ok)
		}
		if u.Store(off, 67) {
			t.Errorf("P701: Store(%d, 67): true", off)
		}
		waits(t, &u, 65, 66)
		wrote(t, &u, 7)
	}
}

// TestP701Quiet: what is said to do nothing does nothing: stores at 4 and 8, loads at 0 and 8, Waiting and Out.
func TestP701Quiet(t *testing.T) {
	var u uart.Uart
	u.In(65)
	u.In(0)
	u.Store(0, 7)
	for range 3 {
		for _, v := range []int{0, 1, 65, 255, -1, math.MinInt, math.MaxInt} {
			if !u.Store(4, v) || !u.Store(8, v) {
				t.Errorf("P701: a store of %d at 4 or 8: false", v)
			}
		}
		if n, ok := u.Load(0); n != 0 || !ok {
			t.Errorf("P701: Load(0): %d, %v", n, ok)
		}
		if n, ok := u.Load(8); n != 2 || !ok || u.Waiting() != 2 {
			t.Errorf("P701: Load(8): %d, %v; Waiting: %d", n, ok, u.Waiting())
		}
		wrote(t, &u, 7)
	}
	waits(t, &u, 65, 0)
}

// TestP701Out: what is written out stays in its order, and what waits is nothing to it.
func TestP701Out(t *testing.T) {
	var u uart.Uart
	var want []int
	for k := range 5000 {
		u.In(k)
		if !u.Store(0, 3*k) {
			t.Errorf("P701: Store(0, %d): false", 3*k)
		}
		want = append(want, low(3*k))
		if k%7 == 0 {
			u.Load(4)
		}
		if k%100 == 0 {
			u.Clear()
			wrote(t, &u, want...)
		}
	}
	wrote(t, &u, want...)
}

// TestP701Clear: none waits any more, sixteen may come again, and what was written out stays.
func TestP701Clear(t *testing.T) {
	for n := range 18 {
		for taken := range 18 {
			var u uart.Uart
			for b := range n {
				u.In(b)
			}
			for range taken {
				u.Load(4)
			}
			u.Store(0, 9)
			u.Clear()
			waits(t, &u)
			var want []int
			for b := range 16 {
				want = append(want, 30+b)
				if !u.In(30 + b) {
					t.Errorf("P701: cleared, with %d before: In, when %d wait: false", n, b)
				}
			}
			if u.In(99) {
				t.Errorf("P701: cleared, with %d before: a seventeenth waits", n)
			}
			waits(t, &u, want...)
			wrote(t, &u, 9)
		}
	}
}

// TestP701Apart: two Uarts have nothing in common.
func TestP701Apart(t *testing.T) {
	var a, b uart.Uart
	a.In(1)
	b.In(2)
	a.Store(0, 3)
	b.Store(0, 4)
	b.Store(0, 5)
	a.In(6)
	b.Clear()
	wrote(t, &a, 3)
	wrote(t, &b, 4, 5)
	waits(t, &b)
	waits(t, &a, 1, 6)
}

// TestP701Play: long rows of calls, against the model.
func TestP701Play(t *testing.T) {
	for seed := range 60 {
		var u uart.Uart
		var m model
		for k, c := range row(uint32(seed), 2000, 2+seed%11) {
			if got, want := ask(&u, c), askModel(&m, c); got != want {
				t.Fatalf("P701: row %d, call %d, %v: %v, want %v", seed, k, c, got, want)
			}
		}
		wrote(t, &u, m.wrote...)
		waits(t, &u, m.waits...)
	}
}

// TestP701Again: the same calls tell the same, also side by side.
func TestP701Again(t *testing.T) {
	list := row(5, 3000, 6)
	play := func() ([]told, []byte) {
		var u uart.Uart
		var all []told
		for _, c := range list {
			all = append(all, ask(&u, c))
		}
		return all, u.Out()
	}
	want, out := play()
	var wait sync.WaitGroup
	for range 8 {
		wait.Go(func() {
			if got, o := play(); !slices.Equal(got, want) || !slices.Equal(o, out) {
				t.Error("P701: the same calls tell something else")
			}
		})
	}
	wait.Wait()
}

// TestP702New: what is done with what Out told, in its spare room too, is not told later; and it stays as it was told.
func TestP702New(t *testing.T) {
	for n := range 70 {
		var u uart.Uart
		var want []int
		for b := range n {
			u.Store(0, b)
			want = append(want, b)
		}
		first, second, kept := u.Out(), u.Out(), u.Out()
		u.Store(0, 200)
		spoil(first)
		wrote(t, &u, append(slices.Clone(want), 200)...)
		u.Store(0, 201)
		u.In(1)
		spoil(second)
		wrote(t, &u, append(slices.Clone(want), 200, 201)...)
		for k, b := range kept {
			if int(b) != want[k] {
				t.Errorf("P702: what Out told is %d at %d now, it was %d", b, k, want[k])
			}
		}
		for _, b := range kept[len(kept):cap(kept)] {
			if b == 200 || b == 201 {
				t.Errorf("P702: in the spare room of what Out told stands what was written later")
			}
		}
	}
}

// spoil overwrites a list, and its spare room.
func spoil(list []byte) {
	list = list[:cap(list)]
	for k := range list {
		list[k] = 77
	}
}
