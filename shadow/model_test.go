package shadow_test

import (
	"maps"
	"math/big"
	"slices"

	"trunnion/api"
)

// The model says again what the chapters 17 and 5 say, page by page, by division and by big numbers.

// part is the bits from low on, so many, of any int.
func part(n, low, count int) int {
	n = ((n % (1 << 32)) + 1<<32) % (1 << 32)
	for range low {
		n /= 2
	}
	return n % (1 << count)
}

// has is whether an entry has a bit.
func has(entry, bit int) bool { return (part(entry, 0, 32)/bit)%2 == 1 }

// leads is whether an entry of a first table leads to a table.
func leads(entry int) bool {
	return has(entry, 1) && !has(entry, 2) && !has(entry, 4) && !has(entry, 8) && !has(entry, 16)
}

// paged is whether there are page tables.
func paged(ptbr int) bool { return part(ptbr, 31, 1) == 1 }

// guest is what Build and Tables are told of a guest.
type guest struct {
	m           api.Loader
	ptbr, pages int
}

// at is the entry of a table.
func (g guest) at(frame, index int) (int, bool) { return g.m.Load(frame*4096+4*index, 4) }

// tables marks the frames that hold page tables, and tells the marked ones that the guest has, from the least on.
func (g guest) tables() []int {
	if !paged(g.ptbr) {
		return nil
	}
	marked := map[int]int{part(g.ptbr, 0, 20): 1}
	for index := range 1024 {
		if entry, ok := g.at(part(g.ptbr, 0, 20), index); ok && leads(entry) {
			marked[part(entry, 12, 20)]++
		}
	}
	var l []int
	for _, frame := range slices.Sorted(maps.Keys(marked)) {
		if frame < g.pages {
			l = append(l, frame)
		}
	}
	return l
}

// page is where the guest has a page, and by which bits.
func (g guest) page(vpn int) (frame, bits int, ok bool) {
	if !paged(g.ptbr) {
		return vpn, 2 + 4 + 8 + 16, true
	}
	one, ok := g.at(part(g.ptbr, 0, 20), vpn/1024)
	if !ok || !leads(one) {
		return 0, 0, false
	}
	two, ok := g.at(part(one, 12, 20), vpn%1024)
	if !ok || !has(two, 1) {
		return 0, 0, false
	}
	for _, bit := range []int{2, 4, 8, 16} {
		if has(two, bit) {
			bits += bit
		}
	}
	return part(two, 12, 20), bits, true
}

// vpns are the pages that a call is about.
func vpns(from, n int) []int {
	var l []int
	for k := range min(max(n, 0), 4096) {
		vpn := new(big.Int).Add(big.NewInt(int64(from)), big.NewInt(int64(k)))
		if vpn.Sign() >= 0 && vpn.Cmp(big.NewInt(1<<20)) < 0 {
			l = append(l, int(vpn.Int64()))
		}
	}
	return l
}

// build is Build.
func (g guest) build(first, from, n int) []api.Entry {
	var l []api.Entry
	tables := g.tables()
	for _, vpn := range vpns(from, n) {
		frame, bits, ok := g.page(vpn)
		if !ok || frame >= g.pages {
			continue
		}
		if slices.Contains(tables, frame) && has(bits, 4) {
			bits -= 4
		}
		l = append(l, api.Entry{Vpn: vpn, Frame: first + frame, Bits: bits})
	}
	return l
}

// fits is Fits.
func fits(l []api.Entry, first, pages int) bool {
	end := new(big.Int).Add(big.NewInt(int64(first)), big.NewInt(int64(pages)))
	for _, e := range l {
		frame := big.NewInt(int64(e.Frame))
		if frame.Cmp(big.NewInt(int64(first))) < 0 || frame.Cmp(end) >= 0 {
			return false
		}
	}
	return true
}
