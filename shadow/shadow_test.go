package shadow_test

import (
	"bytes"
	"math"
	"math/rand"
	"slices"
	"sync"
	"testing"

	"trunnion/api"
	"trunnion/phys"
	"trunnion/shadow"
	"trunnion/walk"
)

const (
	every = api.PR | api.PW | api.PX | api.PU
	near  = 1 << 20 // pages that addresses reach
)

// words is a memory that has some words alone. What it does not have it tells beside a number that no one may look at.
type words map[int]int

func (w words) Load(addr, size int) (int, bool) {
	v, ok := w[addr]
	if !ok || size != 4 {
		return 2<<12 | api.PV, false
	}
	return v, true
}

// on is the Ptbr of page tables at that frame.
func on(frame int) int { return 1<<31 | frame }

// entry is an entry.
func entry(vpn, frame, bits int) api.Entry { return api.Entry{Vpn: vpn, Frame: frame, Bits: bits} }

// put lays an entry into the table at a frame.
func put(m *phys.Memory, frame, index, v int) { m.Store(frame*api.Page+4*index, 4, v) }

// three is a guest of 8 pages: its first table at frame 1, further ones at 2 (pages 0 to 1023) and 3 (the last 1024 pages).
func three() *phys.Memory {
	m := phys.New(8)
	put(m, 1, 0, 2<<12|api.PV)
	put(m, 1, 1023, 3<<12|api.PV)
	return m
}

// sameBuild holds Build to the model.
func sameBuild(t *testing.T, g guest, first, from, n int) {
	t.Helper()
	l, want := shadow.Build(g.m, g.ptbr, g.pages, first, from, n), g.build(first, from, n)
	if !slices.Equal(l, want) {
		t.Fatalf("P1701: Build(ptbr %#x, pages %d, first %d, from %d, n %d): %d entries %v, want %d %v", g.ptbr, g.pages, first, from, n, len(l), l[:min(len(l), 9)], len(want), want[:min(len(want), 9)])
	}
}

// sameTables holds Tables to the model.
func sameTables(t *testing.T, g guest) {
	t.Helper()
	if l, want := shadow.Tables(g.m, g.ptbr, g.pages), g.tables(); !slices.Equal(l, want) {
		t.Fatalf("P1702: Tables(ptbr %#x, pages %d): %v, want %v", g.ptbr, g.pages, l, want)
	}
}

// far are ints at all the edges there are.
func far() []int {
	return []int{math.MinInt, math.MinInt + 1, math.MinInt + 4096, -1 << 32, -1 << 31, -near, -4097, -4096, -4095, -2, -1, 0, 1, 2, 3, 7, 4095, 4096, 4097,
		near - 4097, near - 4096, near - 4095, near - 2, near - 1, near, near + 1, 1 << 31, 1<<32 - 1, 1 << 32, 1<<32 + 1, 1 << 62, math.MaxInt - 4096, math.MaxInt - 1, math.MaxInt}
}

func TestP1701Example(t *testing.T) {
	want := []api.Entry{{Vpn: 0, Frame: 4, Bits: every}, {Vpn: 1, Frame: 5, Bits: every}}
	if l := shadow.Build(phys.New(2), 0, 2, 4, 0, 10); !slices.Equal(l, want) {
		t.Errorf("P1701: %v", l)
	}
}

// TestP1701Rows: a guest's tables, their entries by hand.
func TestP1701Rows(t *testing.T) {
	m := three()
	put(m, 1, 1, 4<<12)                 // without PV: leads nowhere
	put(m, 1, 2, 5<<12|api.PV|api.PR)   // no table: it has a right
	put(m, 2, 0, 0<<12|api.PV|every)    // all rights
	put(m, 2, 1, 7<<12|api.PV|api.PR)   // the last frame that there is
	put(m, 2, 2, 8<<12|api.PV|every)    // no frame of the guest
	put(m, 2, 4, 6<<12|every)           // without PV
	put(m, 2, 5, 6<<12|api.PV)          // no right at all
	put(m, 2, 6, 1<<12|api.PV|every)    // the first table
	put(m, 2, 7, 2<<12|api.PV|api.PW)   // the second
	put(m, 2, 8, 3<<12|api.PV|every)    // the third
	put(m, 2, 9, 4<<12|0xFE0|api.PV|6)  // bits that are none; the frame of an entry without PV
	put(m, 2, 10, 5<<12|api.PV|api.PW)  // the frame of an entry with a right
	put(m, 2, 11, 0xFFFFF<<12|api.PV|2) // far away
	put(m, 3, 1023, 6<<12|api.PV|api.PX|api.PU)
	put(m, 5, 3, 6<<12|api.PV|every) // in what is no table
	for _, x := range []struct {
		from, n int
		want    []api.Entry
	}{
		{0, 4096, []api.Entry{entry(0, 100, every), entry(1, 107, api.PR), entry(5, 106, 0), entry(6, 101, every&^api.PW), entry(7, 102, 0), entry(8, 103, every&^api.PW), entry(9, 104, api.PR|api.PW), entry(10, 105, api.PW)}},
		{1, 5, []api.Entry{entry(1, 107, api.PR), entry(5, 106, 0)}},
		{1, 4, []api.Entry{entry(1, 107, api.PR)}},
		{2, 3, nil},
		{0, 1, []api.Entry{entry(0, 100, every)}},
		{-1, 1, nil},
		{-1, 2, []api.Entry{entry(0, 100, every)}},
		{near - 1, 1, []api.Entry{entry(near-1, 106, api.PX|api.PU)}},
		{near - 4096, 4096, []api.Entry{entry(near-1, 106, api.PX|api.PU)}},
		{near, 1, nil},
		{0, 0, nil},
		{0, -1, nil},
	} {
		if l := shadow.Build(m, on(1), 8, 100, x.from, x.n); !slices.Equal(l, x.want) {
			t.Errorf("P1701: from %d, n %d: %v, want %v", x.from, x.n, l, x.want)
		}
	}
	if l := shadow.Tables(m, on(1), 8); !slices.Equal(l, []int{1, 2, 3}) {
		t.Errorf("P1702: %v", l)
	}
}

// TestP1701Unpaged: without bit 31 of ptbr each page is the frame of its number, whatever stands in the memory; nothing is withheld.
func TestP1701Unpaged(t *testing.T) {
	m := three()
	for _, ptbr := range []int{0, 1, 1<<31 - 1, 1<<32 | 1, -1 << 32, math.MaxInt &^ (1 << 31), math.MinInt} {
		for _, pages := range []int{math.MinInt, -1, 0, 1, 2, 8, 4095, 4096, 4097, near - 1, near, near + 1, math.MaxInt} {
			g := guest{m, ptbr, pages}
			for _, from := range []int{-2, 0, 1, 4095, near - 2} {
				sameBuild(t, g, 4, from, 4096)
				sameBuild(t, g, 4, from, 3)
			}
			sameTables(t, g)
		}
	}
}

// TestP1701Span: which pages a call is about, at all edges of from and n.
func TestP1701Span(t *testing.T) {
	m := three()
	for _, index := range []int{0, 1, 2, 1022, 1023} {
		put(m, 2, index, 4<<12|api.PV|api.PR)
		put(m, 3, index, 5<<12|api.PV|api.PW)
	}
	for _, from := range far() {
		for _, n := range far() {
			sameBuild(t, guest{m, on(1), 8}, 4, from, n)
			if n < 5000 || from%2 == 0 {
				sameBuild(t, guest{m, 0, math.MaxInt}, 4, from, n)
			}
		}
	}
}

// TestP1701Most: no call is about more than 4096 pages, and of these the ones ahead of page 0 count, too.
func TestP1701Most(t *testing.T) {
	for _, x := range []struct{ from, n, count, last int }{
		{0, 4095, 4095, 4094}, {0, 4096, 4096, 4095}, {0, 4097, 4096, 4095}, {0, math.MaxInt, 4096, 4095}, {9, 1 << 32, 4096, 4104},
		{-1, 4096, 4095, 4094}, {-1, 4097, 4095, 4094}, {-4095, math.MaxInt, 1, 0}, {-4096, math.MaxInt, 0, 0}, {-5000, 10000, 0, 0},
		{near - 4096, math.MaxInt, 4096, near - 1}, {near - 5, math.MaxInt, 5, near - 1}, {math.MaxInt, math.MaxInt, 0, 0}, {math.MinInt, math.MaxInt, 0, 0}, {math.MinInt, math.MinInt, 0, 0},
	} {
		l := shadow.Build(phys.New(0), 0, near, 0, x.from, x.n)
		if len(l) != x.count || x.count > 0 && l[x.count-1] != (api.Entry{Vpn: x.last, Frame: x.last, Bits: every}) {
			t.Errorf("P1701: from %d, n %d: %d entries, want %d", x.from, x.n, len(l), x.count)
		}
	}
}

// TestP1701Bits: all lowest bits that an entry can have, to a frame with a table and to one without.
func TestP1701Bits(t *testing.T) {
	m := three()
	for low := range 4096 {
		for k, frame := range []int{0, 1, 2, 3, 4, 7, 8} {
			put(m, 2, k, frame<<12|low)
		}
		sameBuild(t, guest{m, on(1), 8}, 20, 0, 8)
	}
}

// TestP1701Inner: all lowest bits that an entry of the first table can have: it leads to a table, or to nothing, and what it leads to is not written, or is.
func TestP1701Inner(t *testing.T) {
	m := three()
	put(m, 4, 2, 4<<12|api.PV|every)
	put(m, 2, 0, 4<<12|api.PV|every)
	for low := range 4096 {
		put(m, 1, 1, 4<<12|low)
		g := guest{m, on(1), 8}
		sameBuild(t, g, 4, 1000, 100)
		sameBuild(t, g, 4, 0, 1)
		sameTables(t, g)
		if low%32 == api.PV != slices.Contains(shadow.Tables(m, on(1), 8), 4) {
			t.Fatalf("P1702: bits %#x", low)
		}
	}
}

// TestP1701Pages: of a guest's frames those below pages are told, however many the memory has.
func TestP1701Pages(t *testing.T) {
	m := three()
	for index := range 16 {
		put(m, 2, index, index<<12|api.PV|every)
	}
	put(m, 2, 16, 0xFFFFF<<12|api.PV|every)
	for pages := -2; pages < 20; pages++ {
		g := guest{m, on(1), pages}
		sameBuild(t, g, 4, 0, 17)
		sameTables(t, g)
	}
	for _, pages := range far() {
		g := guest{m, on(1), pages}
		sameBuild(t, g, -7, 0, 17)
		sameTables(t, g)
	}
	if l := shadow.Build(m, on(1), math.MinInt, 4, 0, 4096); len(l) != 0 {
		t.Errorf("P1701: of no pages: %v", l)
	}
}

// TestP1701Tables: no entry gives the right to write what holds a page table: be it the first one, one that leads to pages which are not asked for, or one of a first table that is none of the guest's.
func TestP1701Tables(t *testing.T) {
	for index := range 1024 {
		m := phys.New(8)
		put(m, 1, index, 6<<12|api.PV)
		put(m, 1, (index+1)%1024, 2<<12|api.PV)
		put(m, 1, (index+2)%1024, 5<<12|api.PV|api.PX)
		for k := range 8 {
			put(m, 2, k, k<<12|api.PV|every)
		}
		from := (index + 1) % 1024 * 1024
		var want []api.Entry
		for k := range 8 {
			bits := every
			if k == 1 || k == 2 || k == 6 {
				bits = api.PR | api.PX | api.PU
			}
			want = append(want, entry(from+k, 4+k, bits))
		}
		if l := shadow.Build(m, on(1), 8, 4, from, 8); !slices.Equal(l, want) {
			t.Fatalf("P1701: table %d: %v, want %v", index, l, want)
		}
	}
	m := phys.New(8)
	put(m, 7, 0, 3<<12|api.PV)
	put(m, 3, 0, 3<<12|api.PV|every)
	put(m, 3, 1, 4<<12|api.PV|every)
	want := []api.Entry{entry(0, 103, every&^api.PW), entry(1, 104, every)}
	if l := shadow.Build(m, on(7), 5, 100, 0, 9); !slices.Equal(l, want) {
		t.Errorf("P1701: first table behind the pages: %v, want %v", l, want)
	}
	if l := shadow.Tables(m, on(7), 5); !slices.Equal(l, []int{3}) {
		t.Errorf("P1702: first table behind the pages: %v", l)
	}
}

// TestP1701Self: a table may lead to itself.
func TestP1701Self(t *testing.T) {
	m := phys.New(3)
	put(m, 1, 0, 1<<12|api.PV)
	put(m, 1, 1, 2<<12|api.PV|api.PR|api.PW)
	put(m, 1, 2, 1<<12|api.PV|api.PW|api.PX)
	want := []api.Entry{entry(0, 5, 0), entry(1, 6, api.PR|api.PW), entry(2, 5, api.PX)}
	if l := shadow.Build(m, on(1), 3, 4, 0, 4096); !slices.Equal(l, want) {
		t.Errorf("P1701: %v, want %v", l, want)
	}
	if l := shadow.Tables(m, on(1), 3); !slices.Equal(l, []int{1}) {
		t.Errorf("P1702: %v", l)
	}
}

// TestP1701First: the host's frame is the guest's, from any first one on.
func TestP1701First(t *testing.T) {
	m := three()
	put(m, 2, 3, 6<<12|api.PV|api.PR)
	put(m, 2, 4, 0<<12|api.PV|api.PX)
	for _, first := range append(far(), math.MaxInt-6) {
		if first > math.MaxInt-6 {
			shadow.Build(m, on(1), 8, first, 0, 9) // A frame beyond all ints: the call ends.
			continue
		}
		want := []api.Entry{entry(3, first+6, api.PR), entry(4, first, api.PX)}
		if l := shadow.Build(m, on(1), 8, first, 0, 9); !slices.Equal(l, want) {
			t.Errorf("P1701: first %d: %v, want %v", first, l, want)
		}
	}
}

// TestP1701NoWords: ptbr, and what a memory answers, may be any ints; their lowest 32 bits count.
func TestP1701NoWords(t *testing.T) {
	entries := []int{-1, -1 << 32, 1<<32 | 2<<12 | api.PV, -1<<40 | 2<<12 | api.PV, 1<<62 | 3<<12 | api.PV | api.PR, math.MinInt | 9<<12 | api.PV | every, math.MaxInt, math.MinInt}
	for _, ptbr := range []int{-1<<32 | on(1), 1<<32 | on(1), 1<<62 | on(1), -1<<20 | 1, math.MinInt | on(1)} {
		for _, one := range entries {
			for _, two := range entries {
				m := words{4096: one, 4100: 7<<12 | api.PV, 2 * 4096: two, 7 * 4096: two, 3 * 4096: two, 9 * 4096: two}
				for _, pages := range []int{3, 10, near} {
					g := guest{m, ptbr, pages}
					sameBuild(t, g, 4, -3, 2000)
					sameTables(t, g)
				}
			}
		}
	}
	m := words{0xFFFFF * 4096: 0xFFFFE<<12 | api.PV, 0xFFFFE * 4096: 0xFFFFF<<12 | api.PV | every}
	want := []api.Entry{entry(0, 0xFFFFF, every&^api.PW)}
	if l := shadow.Build(m, -1, near, 0, 0, 9); !slices.Equal(l, want) {
		t.Errorf("P1701: ptbr -1: %v, want %v", l, want)
	}
}

// TestP1701Missing: words that the memory does not have map nothing, and those around them do.
func TestP1701Missing(t *testing.T) {
	for _, m := range []words{
		{},
		{4096 + 4: 2<<12 | api.PV},
		{4096 + 4: 2<<12 | api.PV, 8192 + 8: 4<<12 | api.PV | every},
		{4096 + 8: 9<<12 | api.PV, 9*4096 + 12: 1<<12 | api.PV | every, 9*4096 + 16: 9<<12 | api.PV | every},
		{8192 + 8: 4<<12 | api.PV | every},
		{4096 + 4*1023: 3<<12 | api.PV, 3*4096 + 4*1023: 3<<12 | api.PV | every},
	} {
		for _, pages := range []int{0, 1, 2, 3, 4, 5, 9, 10, near} {
			g := guest{m, on(1), pages}
			for _, from := range []int{0, 1024, 2048, near - 4096} {
				sameBuild(t, g, 4, from, 4096)
			}
			sameTables(t, g)
		}
	}
	for _, frame := range []int{8, 9, 0x7FFFF, 0xFFFFF} {
		if l := shadow.Build(three(), on(frame), near, 4, 0, 4096); len(l) != 0 {
			t.Errorf("P1701: tables that are not there: %v", l)
		}
		if l := shadow.Tables(three(), on(frame), near); !slices.Equal(l, []int{frame}) {
			t.Errorf("P1702: tables that are not there: %v", l)
		}
	}
}

// grown is a memory whose words are by chance entries of page tables, to its frames and beyond.
func grown(r *rand.Rand, pages int) *phys.Memory {
	m := phys.New(pages)
	for addr := 0; addr < m.Size(); addr += 4 {
		v := r.Intn(pages+3)<<12 | api.PV
		switch r.Intn(4) {
		case 0:
			v |= r.Intn(32)
		case 1:
			v = r.Intn(1 << 32)
		}
		m.Store(addr, 4, v)
	}
	return m
}

// TestP1701Chance: memories full of page tables, against the model; Fits holds of what is told.
func TestP1701Chance(t *testing.T) {
	r := rand.New(rand.NewSource(17))
	for range 60 {
		pages := 1 + r.Intn(9)
		m := grown(r, pages)
		for range 4 {
			g := guest{m, on(r.Intn(pages + 1)), pages + r.Intn(3) - 1}
			sameTables(t, g)
			first, from := r.Intn(300), r.Intn(near+2000)-1000
			sameBuild(t, g, first, from, r.Intn(5000)-10)
			if l := shadow.Build(m, g.ptbr, g.pages, first, from, 4096); !shadow.Fits(l, first, g.pages) {
				t.Fatalf("P1703: first %d, pages %d: %v", first, g.pages, l)
			}
		}
	}
}

// TestP1701Walk: where an entry gives a right, the guest's own walk comes to that frame; where walk comes to one of its frames, there is an entry.
func TestP1701Walk(t *testing.T) {
	r := rand.New(rand.NewSource(5))
	m := grown(r, 6)
	for from := 0; from < near; from += 4096 {
		told := map[int]api.Entry{}
		for _, e := range shadow.Build(m, on(3), 6, 50, from, 4096) {
			told[e.Vpn] = e
		}
		for vpn := from; vpn < from+4096; vpn += 1 + r.Intn(5) {
			at, cause := walk.Walk(m, on(3), vpn*4096, 1, false)
			e, ok := told[vpn]
			if ok && e.Bits&api.PR != 0 && (cause != 0 || at != (e.Frame-50)*4096) || !ok && cause == 0 && at < 6*4096 {
				t.Fatalf("P1701: page %#x: %v, %t; Walk %#x, %d", vpn, e, ok, at, cause)
			}
		}
	}
}

func TestP1702Rows(t *testing.T) {
	m := phys.New(8)
	for k, frame := range []int{6, 3, 5, 3, 0, 7, 8, 0xFFFFF, 4, 6} {
		put(m, 4, 100*k, frame<<12|api.PV|0xFE0)
	}
	put(m, 4, 1, 1<<12|api.PV|api.PR)
	put(m, 4, 2, 1<<12|api.PV|api.PW)
	put(m, 4, 3, 1<<12|api.PV|api.PX)
	put(m, 4, 4, 1<<12|api.PV|api.PU)
	put(m, 4, 5, 1<<12)
	put(m, 3, 5, 2<<12|api.PV) // an entry of a second table leads to no table
	for _, x := range []struct {
		ptbr, pages int
		want        []int
	}{
		{on(4), 8, []int{0, 3, 4, 5, 6, 7}}, {on(4), 7, []int{0, 3, 4, 5, 6}}, {on(4), 5, []int{0, 3, 4}}, {on(4), 4, []int{0, 3}}, {on(4), 1, []int{0}},
		{on(4), 9, []int{0, 3, 4, 5, 6, 7, 8}}, {on(4), near - 1, []int{0, 3, 4, 5, 6, 7, 8}}, {on(4), near, []int{0, 3, 4, 5, 6, 7, 8, 0xFFFFF}}, {on(4), math.MaxInt, []int{0, 3, 4, 5, 6, 7, 8, 0xFFFFF}},
		{on(4), 0, nil}, {on(4), -1, nil}, {on(4), math.MinInt, nil},
		{4, 8, nil}, {0x7FF00004, 8, nil}, {1<<32 | 4, 8, nil}, {0, 8, nil},
		{0xFFF00004, 8, []int{0, 3, 4, 5, 6, 7}}, {-1<<20 | 4, 8, []int{0, 3, 4, 5, 6, 7}}, {on(4) | 1<<40, 8, []int{0, 3, 4, 5, 6, 7}},
		{on(7), 8, []int{7}}, {on(7), 7, nil}, {on(8), 8, nil}, {on(8), 9, []int{8}},
	} {
		if l := shadow.Tables(m, x.ptbr, x.pages); !slices.Equal(l, x.want) {
			t.Errorf("P1702: Tables(ptbr %#x, pages %d): %v, want %v", x.ptbr, x.pages, l, x.want)
		}
	}
}

// TestP1702Full: a first table whose entries lead to as many tables, told rising, in whatever order they stand.
func TestP1702Full(t *testing.T) {
	m := words{}
	var want []int
	for index := range 1024 {
		m[9*4096+4*index] = (20+index*387%1024)<<12 | api.PV
		want = append(want, 20+index)
	}
	want = slices.Insert(want, 0, 9)
	if l := shadow.Tables(m, on(9), near); !slices.Equal(l, want) {
		t.Errorf("P1702: %v", l)
	}
	sameTables(t, guest{m, on(9), 500})
}

func TestP1702Fits(t *testing.T) {
	for _, x := range []struct {
		frames       []int
		first, pages int
		want         bool
	}{
		{nil, 4, 2, true}, {nil, 0, 0, true}, {nil, 0, math.MinInt, true}, {[]int{}, 4, -1, true},
		{[]int{4}, 4, 1, true}, {[]int{4, 5}, 4, 2, true}, {[]int{5, 4, 5}, 4, 2, true},
		{[]int{3}, 4, 2, false}, {[]int{6}, 4, 2, false}, {[]int{4}, 4, 0, false}, {[]int{4}, 4, -1, false}, {[]int{3}, 4, -1, false},
		{[]int{4, 5, 6}, 4, 2, false}, {[]int{3, 4, 5}, 4, 2, false}, {[]int{4, 6, 5}, 4, 2, false},
		{[]int{-3, -1}, -3, 3, true}, {[]int{-3, 0}, -3, 3, false},
		{[]int{math.MaxInt}, math.MaxInt, 1, true}, {[]int{math.MaxInt}, math.MaxInt - 1, 5, true}, {[]int{math.MaxInt}, math.MinInt, math.MaxInt, false}, {[]int{math.MaxInt}, 1, math.MaxInt, true}, {[]int{math.MaxInt}, 0, math.MaxInt, false},
		{[]int{math.MinInt}, math.MaxInt, 5, false}, {[]int{math.MinInt}, math.MinInt, 1, true}, {[]int{0}, 1, math.MinInt, false}, {[]int{-1}, math.MinInt, math.MaxInt, false}, {[]int{-2}, math.MinInt, math.MaxInt, true},
		{[]int{1<<32 + 4}, 4, 2, false}, {[]int{-1<<32 + 4}, 4, 2, false},
	} {
		var l []api.Entry
		for _, frame := range x.frames {
			l = append(l, api.Entry{Vpn: -5, Frame: frame, Bits: -1})
		}
		if ok := shadow.Fits(l, x.first, x.pages); ok != x.want {
			t.Errorf("P1702: Fits(%v, %d, %d): %t", x.frames, x.first, x.pages, ok)
		}
	}
}

// TestP1702FitsAll: frames, first and pages at all edges, against big numbers.
func TestP1702FitsAll(t *testing.T) {
	for _, frame := range far() {
		l := []api.Entry{{Vpn: frame, Frame: frame, Bits: frame}}
		for _, first := range far() {
			for _, pages := range far() {
				if ok := shadow.Fits(l, first, pages); ok != fits(l, first, pages) {
					t.Fatalf("P1702: Fits(frame %d, %d, %d): %t", frame, first, pages, ok)
				}
			}
		}
	}
}

// TestP1702FitsOne: one entry that leads elsewhere is found wherever it stands; Vpn and Bits are not looked at.
func TestP1702FitsOne(t *testing.T) {
	l := make([]api.Entry, 100)
	for k := range l {
		l[k] = api.Entry{Vpn: math.MaxInt - k, Frame: 10 + k%7, Bits: k * 1000}
	}
	if !shadow.Fits(l, 10, 7) {
		t.Error("P1702: all fit")
	}
	for k := range l {
		for _, frame := range []int{9, 17, -10, 1<<32 + 10} {
			old := l[k]
			l[k].Frame = frame
			if shadow.Fits(l, 10, 7) {
				t.Errorf("P1702: entry %d does not fit", k)
			}
			l[k] = old
		}
	}
	if !shadow.Fits(append(l[:50:50], api.Entry{Frame: 99})[:50], 10, 7) {
		t.Error("P1702: an entry behind the list is looked at")
	}
}

// TestP1703Fits: Fits holds of what Build tells, whatever it was told.
func TestP1703Fits(t *testing.T) {
	r := rand.New(rand.NewSource(3))
	m := grown(r, 8)
	for _, pages := range far() {
		for _, first := range far() {
			if first > math.MaxInt-near {
				continue // The host's frames are ints.
			}
			for _, ptbr := range []int{0, on(0), on(5), -1} {
				if l := shadow.Build(m, ptbr, pages, first, 0, 300); !shadow.Fits(l, first, pages) {
					t.Fatalf("P1703: ptbr %#x, pages %d, first %d: %v", ptbr, pages, first, l)
				}
			}
		}
	}
}

// TestP1703Apart: what is told is new memory, and nothing that is handed in changes.
func TestP1703Apart(t *testing.T) {
	m := grown(rand.New(rand.NewSource(9)), 6)
	before := m.Get(0, m.Size())
	l, tables := shadow.Build(m, on(2), 6, 4, 0, 4096), shadow.Tables(m, on(2), 6)
	kept, keptTables := slices.Clone(l), slices.Clone(tables)
	if len(l) < 100 || len(tables) < 3 {
		t.Fatalf("%d entries, %d tables", len(l), len(tables))
	}
	shadow.Fits(l, 4, 6)
	if !slices.Equal(l, kept) {
		t.Error("P1703: Fits changed its list")
	}
	clear(l[:cap(l)])
	clear(tables[:cap(tables)])
	if !slices.Equal(shadow.Build(m, on(2), 6, 4, 0, 4096), kept) || !slices.Equal(shadow.Tables(m, on(2), 6), keptTables) {
		t.Error("P1703: an answer is shared")
	}
	if !bytes.Equal(m.Get(0, m.Size()), before) {
		t.Error("P1703: the memory has changed")
	}
}

// TestP1703Bytes: what is told follows the memory's bytes; nothing is kept of those that were.
func TestP1703Bytes(t *testing.T) {
	m := three()
	for k := range 500 {
		frame := k % 8
		put(m, 2, 9, frame<<12|api.PV|every)
		put(m, 1, 7, k%5<<12|api.PV)
		sameBuild(t, guest{m, on(1), 8}, k, 0, 20)
		sameTables(t, guest{m, on(1), 8})
		put(m, 2, 9, frame<<12)
		sameBuild(t, guest{m, on(1), 8}, k, 0, 20)
	}
}

// TestP1703SameAgain: many at once tell the same, whatever was asked of another guest between.
func TestP1703SameAgain(t *testing.T) {
	var guests []guest
	var lists [][]api.Entry
	for k := range 5 {
		g := guest{grown(rand.New(rand.NewSource(int64(k))), 3+k), on(k), 3 + k}
		guests, lists = append(guests, g), append(lists, g.build(4, 1000*k, 500))
	}
	var workers sync.WaitGroup
	for n := range 8 {
		workers.Go(func() {
			for k := range 100 {
				at := (n + k*(1+n%3)) % len(guests)
				g := guests[at]
				l := shadow.Build(g.m, g.ptbr, g.pages, 4, 1000*at, 500)
				if !slices.Equal(l, lists[at]) || !slices.Equal(shadow.Tables(g.m, g.ptbr, g.pages), g.tables()) {
					t.Errorf("P1703: of guest %d it is told otherwise", at)
				}
			}
		})
	}
	workers.Wait()
}
