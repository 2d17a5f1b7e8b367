package walk_test

import (
	"bytes"
	"math"
	"slices"
	"sync"
	"testing"

	"trunnion/api"
	"trunnion/phys"
	"trunnion/walk"
)

// words is a memory that has some words alone. What it does not have it tells beside a number that no one may look at.
type words map[int]int

func (w words) Load(addr, size int) (int, bool) {
	v, ok := w[addr]
	if !ok || size != 4 {
		return 0x12345000 | api.PV, false
	}
	return v, true
}

// asked is a memory that keeps which loads it was asked for.
type asked struct {
	api.Loader
	list [][2]int
}

func (a *asked) Load(addr, size int) (int, bool) {
	a.list = append(a.list, [2]int{addr, size})
	return a.Loader.Load(addr, size)
}

// part is the bits from low on, so many, of any int, by division alone.
func part(n, low, count int) int {
	n = ((n % (1 << 32)) + 1<<32) % (1 << 32)
	for range low {
		n /= 2
	}
	return n % (1 << count)
}

// has is whether an entry has a bit.
func has(entry, bit int) bool { return (part(entry, 0, 32)/bit)%2 == 1 }

// inner is whether an entry leads to a table.
func inner(entry int) bool {
	return has(entry, 1) && !has(entry, 2) && !has(entry, 4) && !has(entry, 8) && !has(entry, 16)
}

// kindOf is the kind of access that an int stands for.
func kindOf(kind int) int { return []int{0, 1, 2, 1}[part(kind, 0, 2)] }

// modelWalk is Walk as the chapter says it, fault by fault.
func modelWalk(m api.Loader, ptbr, va, kind int, user bool) (int, int) {
	if part(ptbr, 31, 1) == 0 {
		return part(va, 0, 32), 0
	}
	kind = kindOf(kind)
	fault := []int{5, 6, 7}[kind]
	first, ok := m.Load(part(ptbr, 0, 20)*4096+4*part(va, 22, 10), 4)
	if !ok {
		return 0, 4
	}
	if !inner(first) {
		return 0, fault
	}
	second, ok := m.Load(part(first, 12, 20)*4096+4*part(va, 12, 10), 4)
	if !ok {
		return 0, 4
	}
	if !has(second, 1) || !has(second, []int{8, 2, 4}[kind]) {
		return 0, fault
	}
	if user && !has(second, 16) {
		return 0, fault
	}
	if kind == 0 && has(second, 16) && !user {
		return 0, fault
	}
	return part(second, 12, 20)*4096 + part(va, 0, 12), 0
}

// modelMap is Map as the chapter says it.
func modelMap(m api.Loader, ptbr, vpn int) (int, bool) {
	if part(ptbr, 31, 1) == 0 {
		return 0, false
	}
	first, ok := m.Load(part(ptbr, 0, 20)*4096+4*part(vpn, 10, 10), 4)
	if !ok || !inner(first) {
		return 0, false
	}
	second, ok := m.Load(part(first, 12, 20)*4096+4*part(vpn, 0, 10), 4)
	if !ok || !has(second, 1) {
		return 0, false
	}
	return part(second, 0, 32), true
}

// kinds are kinds of access, and other ints.
var kinds = []int{0, 1, 2, 3, 4, 5, 6, 7, -1, -2, -3, -4, 1 << 32, 1<<32 + 2, 1 << 62, math.MinInt, math.MinInt + 1, math.MinInt + 2, math.MinInt + 3, math.MaxInt, math.MaxInt - 1, math.MaxInt - 2, math.MaxInt - 3}

// ints are addresses and pages, and other ints.
var ints = []int{0, 1, 2, 4095, 4096, 4097, 0x3FFFFC, 0x3FFFFF, 0x400000, 0x00403004, 0x12345678, 0x7FFFFFFF, 0x80000000, 0xEDCBA987, 0xF0000000, 0xFFC00000, 0xFFFFF000, 0xFFFFFFFF, 0xFFFFF, 0x100000, 0x3FF, 0x400, 1 << 32, 1<<32 + 0x403004, 1<<40 + 5, -1, -2, -4096, -1 << 31, -1 << 32, -0x12345678, math.MinInt, math.MinInt + 4095, math.MaxInt}

// same holds Walk against the model.
func same(t *testing.T, m api.Loader, ptbr, va, kind int, user bool) {
	t.Helper()
	at, cause := walk.Walk(m, ptbr, va, kind, user)
	wantAt, wantCause := modelWalk(m, ptbr, va, kind, user)
	if at != wantAt || cause != wantCause {
		t.Errorf("Walk(ptbr %#x, va %#x, kind %d, user %v) = %#x, %d; want %#x, %d", ptbr, va, kind, user, at, cause, wantAt, wantCause)
	}
}

// sameMap holds Map against the model.
func sameMap(t *testing.T, m api.Loader, ptbr, vpn int) {
	t.Helper()
	entry, ok := walk.Map(m, ptbr, vpn)
	wantEntry, wantOk := modelMap(m, ptbr, vpn)
	if entry != wantEntry || ok != wantOk {
		t.Errorf("Map(ptbr %#x, vpn %#x) = %#x, %v; want %#x, %v", ptbr, vpn, entry, ok, wantEntry, wantOk)
	}
}

// on is a ptbr of page tables at a frame.
func on(frame int) int { return 1<<31 | frame }

// TestP501Examples: without bit 31 every address is itself.
func TestP501Examples(t *testing.T) {
	for _, ptbr := range []int{0, 1, 0xFFFFF, 0x7FFFFFFF, 1 << 32, -1 << 32, 1 << 62, math.MinInt} {
		for _, va := range []int{0, 1, 4095, 0x12345678, 0x80000000, 0xF0000000, 0xFFFFFFFF} {
			for _, kind := range kinds {
				for _, user := range []bool{false, true} {
					at, cause := walk.Walk(words{}, ptbr, va, kind, user)
					if at != va || cause != 0 {
						t.Errorf("Walk(ptbr %#x, va %#x) = %#x, %d", ptbr, va, at, cause)
					}
				}
			}
		}
		a := &asked{Loader: words{}}
		walk.Walk(a, ptbr, 0, 0, true)
		if len(a.list) != 0 {
			t.Errorf("ptbr %#x: a memory without page tables was asked %v", ptbr, a.list)
		}
	}
}

// TestP501Rows: one walk of each outcome, its numbers by hand.
func TestP501Rows(t *testing.T) {
	// Tables at frame 3; of the address 0x00C02ABC the first index is 3, the second one 2.
	const ptbr, va = 1<<31 | 3, 0x00C02ABC
	const one, two = 3*4096 + 4*3, 7*4096 + 4*2
	const all = api.PV | api.PR | api.PW | api.PX
	lead := 7<<12 | api.PV
	for i, x := range []struct {
		m         words
		kind      int
		user      bool
		at, cause int
	}{
		{words{}, 0, false, 0, api.CBus},
		{words{}, 2, true, 0, api.CBus},
		{words{one: 0}, 0, false, 0, api.CFetch},
		{words{one: 0}, 1, false, 0, api.CLoad},
		{words{one: 0}, 2, false, 0, api.CStore},
		{words{one: 0}, 3, false, 0, api.CLoad},
		{words{one: 7 << 12, two: 9<<12 | all}, 1, false, 0, api.CLoad},
		{words{one: lead | api.PR, two: 9<<12 | all}, 1, false, 0, api.CLoad},
		{words{one: lead | api.PW, two: 9<<12 | all}, 2, false, 0, api.CStore},
		{words{one: lead | api.PX, two: 9<<12 | all}, 0, false, 0, api.CFetch},
		{words{one: lead | api.PU, two: 9<<12 | all | api.PU}, 1, true, 0, api.CLoad},
		{words{one: lead}, 0, false, 0, api.CBus},
		{words{one: lead}, 1, true, 0, api.CBus},
		{words{one: lead, two: 9<<12 | all&^api.PV}, 0, false, 0, api.CFetch},
		{words{one: lead, two: 9<<12 | all&^api.PX}, 0, false, 0, api.CFetch},
		{words{one: lead, two: 9<<12 | all&^api.PR}, 1, false, 0, api.CLoad},
		{words{one: lead, two: 9<<12 | all&^api.PW}, 2, false, 0, api.CStore},
		{words{one: lead, two: 9<<12 | all&^api.PR}, 3, false, 0, api.CLoad},
		{words{one: lead, two: 9<<12 | all}, 0, true, 0, api.CFetch},
		{words{one: lead, two: 9<<12 | all}, 1, true, 0, api.CLoad},
		{words{one: lead, two: 9<<12 | all}, 2, true, 0, api.CStore},
		{words{one: lead, two: 9<<12 | all | api.PU}, 0, false, 0, api.CFetch},
		{words{one: lead, two: 9<<12 | all | api.PU}, 1, false, 0x9ABC, 0},
		{words{one: lead, two: 9<<12 | all | api.PU}, 2, false, 0x9ABC, 0},
		{words{one: lead, two: 9<<12 | all | api.PU}, 0, true, 0x9ABC, 0},
		{words{one: lead, two: 9<<12 | all | api.PU}, 1, true, 0x9ABC, 0},
		{words{one: lead, two: 9<<12 | all | api.PU}, 2, true, 0x9ABC, 0},
		{words{one: lead, two: 9<<12 | all}, 0, false, 0x9ABC, 0},
		{words{one: lead, two: 9<<12 | all}, 1, false, 0x9ABC, 0},
		{words{one: lead, two: 9<<12 | all}, 2, false, 0x9ABC, 0},
		{words{one: lead, two: 9<<12 | api.PV | api.PX}, 0, false, 0x9ABC, 0},
		{words{one: lead, two: 9<<12 | api.PV | api.PR}, 1, false, 0x9ABC, 0},
		{words{one: lead, two: 9<<12 | api.PV | api.PW}, 2, false, 0x9ABC, 0},
		{words{one: lead, two: 9<<12 | api.PV | api.PR}, -1, false, 0x9ABC, 0},
		{words{one: lead, two: 9<<12 | api.PV | api.PW}, -2, false, 0x9ABC, 0},
		{words{one: lead, two: 9<<12 | api.PV | api.PX}, -4, false, 0x9ABC, 0},
		{words{one: lead | 0xFE0, two: 0xFFFFF<<12 | 0xFE0 | all}, 1, false, 0xFFFFFABC, 0},
	} {
		at, cause := walk.Walk(x.m, ptbr, va, x.kind, x.user)
		if at != x.at || cause != x.cause {
			t.Errorf("%d: %#x, %d; want %#x, %d", i, at, cause, x.at, x.cause)
		}
	}
}

// TestP501Bits: of both entries all of the five bits and one beside them, all kinds, both modes, against the model.
func TestP501Bits(t *testing.T) {
	ptbr, va := on(5), 0x8040_1FFF
	one, two := 5*4096+4*0x201, 0xABCDE*4096+4*1
	for low := range 64 {
		for high := range 64 {
			m := words{one: 0xABCDE<<12 | low, two: 0x54321<<12 | high}
			for kind := range 4 {
				same(t, m, ptbr, va, kind, false)
				same(t, m, ptbr, va, kind, true)
			}
			sameMap(t, m, ptbr, 0x80401)
		}
	}
}

// TestP501Kinds: any int is a kind of access.
func TestP501Kinds(t *testing.T) {
	for _, rights := range []int{api.PX, api.PR, api.PW} {
		for _, user := range []bool{false, true} {
			entry := 0x77<<12 | api.PV | rights
			if user {
				entry |= api.PU
			}
			m := words{4096: 2<<12 | api.PV, 8192: entry}
			for _, kind := range kinds {
				same(t, m, on(1), 0x123, kind, user)
			}
		}
	}
}

// TestP501Places: whatever the address and ptbr, the words that are looked at are those of the chapter, in its order, and the one that is not there is told.
func TestP501Places(t *testing.T) {
	for _, p := range ints {
		for _, va := range ints {
			for _, lead := range []int{0, 1, 0x12345, 0xFFFFF} {
				ptbr := p | 1<<31
				one := part(ptbr, 0, 20)*4096 + 4*part(va, 22, 10)
				two := lead*4096 + 4*part(va, 12, 10)
				if one == two {
					continue
				}
				m := words{one: lead<<12 | api.PV, two: 0xFEDCB<<12 | api.PV | api.PR}
				a := &asked{Loader: m}
				at, cause := walk.Walk(a, ptbr, va, 1, false)
				if at != 0xFEDCB000+part(va, 0, 12) || cause != 0 {
					t.Errorf("Walk(ptbr %#x, va %#x) = %#x, %d", ptbr, va, at, cause)
				}
				if !slices.Equal(a.list, [][2]int{{one, 4}, {two, 4}}) {
					t.Errorf("Walk(ptbr %#x, va %#x) looked at %#x", ptbr, va, a.list)
				}
				same(t, words{one: lead<<12 | api.PV}, ptbr, va, 0, true)
				same(t, words{two: 0xFEDCB<<12 | api.PV | api.PX}, ptbr, va, 0, false)
			}
		}
	}
}

// TestP501Self: a table may lead to itself, and be its own page.
func TestP501Self(t *testing.T) {
	const bare = 6<<12 | api.PV
	m := words{6 * 4096: bare, 6*4096 + 4: bare | api.PR}
	for _, x := range []struct{ va, kind, at, cause int }{
		{0x0FFF, 1, 0, api.CLoad},
		{0x1FFF, 1, 0x6FFF, 0},
		{0x1FFF, 2, 0, api.CStore},
		{0x2000, 0, 0, api.CBus},
		{0x400000, 0, 0, api.CFetch},
	} {
		at, cause := walk.Walk(m, on(6), x.va, x.kind, false)
		if at != x.at || cause != x.cause {
			t.Errorf("va %#x, kind %d: %#x, %d", x.va, x.kind, at, cause)
		}
	}
}

// TestP501NoWords: ptbr, addresses and what a memory answers may be any ints; what is told is a word.
func TestP501NoWords(t *testing.T) {
	entries := []int{-1, -1 << 32, 1<<32 | 2<<12 | api.PV, -1<<40 | 2<<12 | api.PV, 1<<62 | 3<<12 | api.PV | api.PR, math.MinInt | 9<<12 | api.PV | api.PW, math.MaxInt, math.MinInt}
	for _, ptbr := range ints {
		for _, va := range ints {
			for _, user := range []bool{false, true} {
				same(t, words{}, ptbr, va, 1, user)
			}
			if at, cause := walk.Walk(words{}, ptbr&^(1<<31), va, 0, true); at != part(va, 0, 32) || cause != 0 {
				t.Errorf("Walk(ptbr %#x, va %#x) = %#x, %d", ptbr&^(1<<31), va, at, cause)
			}
		}
	}
	for _, one := range entries {
		for _, two := range entries {
			for kind := range 3 {
				m := words{4096: one, 2 * 4096: two, 3 * 4096: two, 9 * 4096: two}
				same(t, m, -1<<32|1<<31|1, 5, kind, false)
				sameMap(t, m, 1<<32|1<<31|1, 0)
			}
		}
	}
}

// TestP501Memory: the memory of layer 4 has page tables, within its pages alone.
func TestP501Memory(t *testing.T) {
	m := phys.New(4)
	m.Store(1*4096, 4, 2<<12|api.PV)
	m.Store(1*4096+4*1023, 4, 3<<12|api.PV)
	m.Store(1*4096+4, 4, 4<<12|api.PV)
	m.Store(1*4096+8, 4, 0xFFFFF<<12|api.PV)
	m.Store(2*4096, 4, 0xF0000<<12|api.PV|api.PR|api.PW|api.PU)
	m.Store(3*4096+4*1023, 4, 1<<12|api.PV|api.PX)
	for i, x := range []struct {
		ptbr, va, kind int
		user           bool
		at, cause      int
	}{
		{on(1), 0x00000004, 1, true, 0xF0000004, 0},
		{on(1), 0x00000004, 2, false, 0xF0000004, 0},
		{on(1), 0x00000004, 0, false, 0, api.CFetch},
		{on(1), 0xFFFFFFFC, 0, false, 0x1FFC, 0},
		{on(1), 0xFFFFFFFC, 0, true, 0, api.CFetch},
		{on(1), 0x00400000, 1, true, 0, api.CBus},
		{on(1), 0x00800000, 1, true, 0, api.CBus},
		{on(1), 0x00C00000, 1, true, 0, api.CLoad},
		{on(4), 0x00000000, 1, true, 0, api.CBus},
		{on(0xFFFFF), 0xFFFFFFFF, 2, true, 0, api.CBus},
		{on(0), 0x00000000, 2, true, 0, api.CStore},
	} {
		at, cause := walk.Walk(m, x.ptbr, x.va, x.kind, x.user)
		if at != x.at || cause != x.cause {
			t.Errorf("%d: %#x, %d; want %#x, %d", i, at, cause, x.at, x.cause)
		}
		same(t, m, x.ptbr, x.va, x.kind, x.user)
		sameMap(t, m, x.ptbr, x.va>>12)
	}
}

// TestP502Rows: one answer of each outcome, its numbers by hand.
func TestP502Rows(t *testing.T) {
	// Tables at frame 3; of the page 0xC02 the first index is 3, the second one 2.
	const one, two = 3*4096 + 4*3, 7*4096 + 4*2
	const every = 0xFFE
	lead := 7<<12 | api.PV
	for i, x := range []struct {
		m     words
		ptbr  int
		entry int
		ok    bool
	}{
		{words{one: lead, two: 9<<12 | api.PV}, on(3), 9<<12 | api.PV, true},
		{words{one: lead, two: 9<<12 | api.PV | every}, on(3), 9<<12 | api.PV | every, true},
		{words{one: lead | 0xFE0, two: 0xFFFFF<<12 | api.PV | api.PU}, on(3), 0xFFFFF<<12 | api.PV | api.PU, true},
		{words{one: lead, two: 9<<12 | api.PV}, -1<<20 | 3, 9<<12 | api.PV, true},
		{words{one: lead, two: 9<<12 | every}, on(3), 0, false},
		{words{one: lead, two: 0}, on(3), 0, false},
		{words{one: lead}, on(3), 0, false},
		{words{two: 9<<12 | api.PV}, on(3), 0, false},
		{words{}, on(3), 0, false},
		{words{one: 7 << 12, two: 9<<12 | api.PV}, on(3), 0, false},
		{words{one: lead | api.PR, two: 9<<12 | api.PV}, on(3), 0, false},
		{words{one: lead | api.PW, two: 9<<12 | api.PV}, on(3), 0, false},
		{words{one: lead | api.PX, two: 9<<12 | api.PV}, on(3), 0, false},
		{words{one: lead | api.PU, two: 9<<12 | api.PV}, on(3), 0, false},
		{words{one: lead, two: 9<<12 | api.PV}, 3, 0, false},
		{words{one: lead, two: 9<<12 | api.PV}, 0x7FF00003, 0, false},
		{words{one: lead, two: 9<<12 | api.PV}, 1<<32 | 3, 0, false},
	} {
		for _, vpn := range []int{0xC02, 1<<20 | 0xC02, 1<<40 | 0xC02, -1<<20 | 0xC02, math.MinInt | 0xC02} {
			entry, ok := walk.Map(x.m, x.ptbr, vpn)
			if entry != x.entry || ok != x.ok {
				t.Errorf("%d: vpn %#x: %#x, %v; want %#x, %v", i, vpn, entry, ok, x.entry, x.ok)
			}
		}
	}
}

// TestP502Places: whatever the page and ptbr, against the model, the words looked at among it.
func TestP502Places(t *testing.T) {
	for _, p := range ints {
		for _, vpn := range ints {
			ptbr := p | 1<<31
			one := part(ptbr, 0, 20)*4096 + 4*part(vpn, 10, 10)
			two := 0x4321*4096 + 4*part(vpn, 0, 10)
			m := words{one: 0x4321<<12 | api.PV, two: 0xFEDCB<<12 | api.PV | api.PX}
			a := &asked{Loader: m}
			entry, ok := walk.Map(a, ptbr, vpn)
			if entry != 0xFEDCB009 || !ok {
				t.Errorf("Map(ptbr %#x, vpn %#x) = %#x, %v", ptbr, vpn, entry, ok)
			}
			if !slices.Equal(a.list, [][2]int{{one, 4}, {two, 4}}) {
				t.Errorf("Map(ptbr %#x, vpn %#x) looked at %#x", ptbr, vpn, a.list)
			}
			sameMap(t, m, p&^(1<<31), vpn)
			sameMap(t, words{one: 0x4321<<12 | api.PV}, ptbr, vpn)
		}
	}
}

// grown is a memory full of page tables: most of its words lead to some of its frames, some of them far away.
func grown(seed int) *phys.Memory {
	m := phys.New(6)
	n := uint32(seed)*2654435761 + 12345
	for addr := 0; addr < m.Size(); addr += 4 {
		n = n*1664525 + 1013904223
		v := int(n>>8%7)<<12 | api.PV
		if n>>16%3 == 0 {
			v |= int(n >> 20 % 32)
		}
		if n>>24%16 == 0 {
			v &^= api.PV
		}
		m.Store(addr, 4, v)
	}
	return m
}

// TestP502Agree: what Walk comes to is what Map tells, on memories full of page tables; both against the model.
func TestP502Agree(t *testing.T) {
	for seed := range 8 {
		m := grown(seed)
		for k := range 4096 {
			vpn, ptbr := k*2654435761%(1<<20), on(k%7)
			entry, ok := walk.Map(m, ptbr, vpn)
			sameMap(t, m, ptbr, vpn)
			for kind := range 3 {
				for _, user := range []bool{false, true} {
					va := vpn*4096 + k
					same(t, m, ptbr, va, kind, user)
					at, cause := walk.Walk(m, ptbr, va, kind, user)
					if cause == 0 && (!ok || at != entry&0xFFFFF000|va&0xFFF) {
						t.Fatalf("Walk(va %#x) = %#x, but Map = %#x, %v", va, at, entry, ok)
					}
				}
			}
		}
	}
}

// told is all that some calls tell of a memory.
func told(m api.Loader, order []int) map[int][4]int {
	all := map[int][4]int{}
	for _, k := range order {
		at, cause := walk.Walk(m, on(k%6), k*4099, k, k%5 == 0)
		entry, ok := walk.Map(m, on(k%5), k)
		row := [4]int{at, cause, entry, 0}
		if ok {
			row[3] = 1
		}
		all[k] = row
	}
	return all
}

// TestP503: the same arguments and bytes tell the same, whatever was asked before or is asked beside; and the memory stays as it is.
func TestP503(t *testing.T) {
	m := grown(3)
	before := m.Get(0, m.Size())
	var order []int
	for k := range 20000 {
		order = append(order, k)
	}
	back := slices.Clone(order)
	slices.Reverse(back)
	want := told(m, order)
	var group sync.WaitGroup
	got := make([]map[int][4]int, 6)
	for n := range got {
		group.Add(1)
		go func() {
			defer group.Done()
			list, own := order, grown(3)
			if n%2 == 1 {
				list = back
			}
			if n < 3 {
				own = m
			}
			got[n] = told(own, list)
		}()
	}
	group.Wait()
	for n, all := range got {
		for k, row := range want {
			if all[k] != row {
				t.Fatalf("%d: %d: %v, before %v", n, k, all[k], row)
			}
		}
	}
	if !bytes.Equal(m.Get(0, m.Size()), before) {
		t.Error("a walk has changed the memory")
	}
}

// TestP503Bytes: what is told follows the memory's bytes, nothing is kept of those that were.
func TestP503Bytes(t *testing.T) {
	m := phys.New(3)
	m.Store(4096, 4, 2<<12|api.PV)
	for k := range 1000 {
		m.Store(8192, 4, k<<12|api.PV|api.PR)
		if at, cause := walk.Walk(m, on(1), 8, 1, false); at != k<<12|8 || cause != 0 {
			t.Fatalf("%d: %#x, %d", k, at, cause)
		}
		if entry, ok := walk.Map(m, on(1), 0); entry != k<<12|api.PV|api.PR || !ok {
			t.Fatalf("%d: %#x, %v", k, entry, ok)
		}
		m.Store(8192, 4, k<<12)
		if at, cause := walk.Walk(m, on(1), 8, 1, false); at != 0 || cause != api.CLoad {
			t.Fatalf("%d: %#x, %d", k, at, cause)
		}
	}
}

func BenchmarkWalk(b *testing.B) {
	m := phys.New(3)
	m.Store(4096, 4, 2<<12|api.PV)
	m.Store(8192, 4, api.PV|api.PR)
	for b.Loop() {
		walk.Walk(m, on(1), 8, 1, false)
	}
}
