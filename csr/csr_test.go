package csr_test

import (
	"math"
	"strconv"
	"testing"

	"trunnion/csr"
)

// bits is a set of a word's bits.
type bits [32]bool

// take is the lowest 32 bits of n.
func take(n int) bits {
	var b bits
	for k := range b {
		b[k] = n>>k&1 == 1
	}
	return b
}

// word is the number of the bits.
func (b bits) word() int {
	w := 0
	for k, on := range b {
		if on {
			w += 1 << k
		}
	}
	return w
}

// span is the bits from low to high.
func span(low, high int) bits {
	var b bits
	for k := low; k <= high; k++ {
		b[k] = true
	}
	return b
}

// masks is what the chapter says of each register, in their order.
func masks() []bits {
	all, address, none := span(0, 31), span(2, 31), bits{}
	status := bits{0: true, 1: true, 3: true}
	ptbr := span(0, 19)
	ptbr[31] = true
	return []bits{status, address, address, all, all, all, ptbr, none, all, none, span(0, 2)}
}

// maskOf is the model of Mask.
func maskOf(n int) bits {
	if m := masks(); n >= 0 && n < len(m) {
		return m[n]
	}
	return bits{}
}

// writeOf is the model of Write: each bit by itself.
func writeOf(n, old, v int) int {
	mask, was, told := maskOf(n), take(old), take(v)
	for k := range was {
		if mask[k] {
			was[k] = told[k]
		}
	}
	return was.word()
}

// numbers are the registers' numbers and others, of which some have a register's lowest bits.
func numbers() []int {
	list := []int{math.MinInt, math.MinInt + 1, -1 << 32, -256, -11, -3, -2, -1, 255, 256, 1 << 16, 1 << 31, 1<<32 - 1, 1 << 32, 1<<32 + 1, 1<<40 + 5, math.MaxInt}
	for n := range 64 {
		list = append(list, n)
	}
	return list
}

// words are words and other ints: edges, each bit alone, each bit missing, and numbers beyond words.
func words() []int {
	list := []int{
		0, 3, 5, 6, 7, 9, 10, 11, 12, 13, 14, 15, 0x55555555, 0xAAAAAAAA, 0x12345678, 0xFFFFFFFF, 0x80000001, 0x800FFFFF, 0xFFFFFFFC,
		-1, -2, -3, -4, -5, -12, math.MinInt, math.MinInt + 5, math.MaxInt, math.MaxInt - 4, 1 << 32, 1<<32 + 5, 1<<40 | 10, -1 << 32, -1<<32 + 15,
	}
	for k := range 64 {
		list = append(list, 1<<k, ^(1 << k))
	}
	return list
}

func TestP301Masks(t *testing.T) {
	for n, want := range []int{
		11, 0xFFFFFFFC, 0xFFFFFFFC, 0xFFFFFFFF, 0xFFFFFFFF, 0xFFFFFFFF, 0x800FFFFF, 0, 0xFFFFFFFF, 0, 7,
	} {
		if got := csr.Mask(n); got != want {
			t.Errorf("P301: Mask(%d): %#x, want %#x", n, got, want)
		}
	}
}

func TestP301MaskModel(t *testing.T) {
	for _, n := range numbers() {
		if got, want := csr.Mask(n), maskOf(n).word(); got != want {
			t.Errorf("P301: Mask(%d): %#x, want %#x", n, got, want)
		}
	}
}

func TestP301Write(t *testing.T) {
	for _, x := range []struct{ n, old, v, want int }{
		{0, 0, 0xFFFFFFFF, 11},
		{0, 4, 0, 4}, // S stays
		{0, 0xFFFFFFFF, 0, 0xFFFFFFF4},
		{0, 15, 4, 4},
		{1, 3, 0x1234, 0x1237},
		{1, 0, 0x1237, 0x1234},
		{2, 0xFFFFFFFF, 0, 3},
		{3, 7, 0x80000001, 0x80000001},
		{4, 7, 0, 0},
		{5, 1, 2, 2},
		{6, 0, 0xFFFFFFFF, 0x800FFFFF},
		{6, 0xFFFFFFFF, 0, 0x7FF00000},
		{6, 1, 0x80000000, 0x80000000},
		{7, 99, 1, 99},
		{8, 99, 0xFFFFFFFF, 0xFFFFFFFF},
		{9, 5, 0, 5},
		{10, 0, 0xFF, 7},
		{10, 8, 5, 13},
		{11, 5, 10, 5},
		{-1, 5, 10, 5},
		{1 << 32, 5, 10, 5},
		{5, 0, -1, 0xFFFFFFFF}, // old and v as words
		{5, -1, 1<<32 + 7, 7},
		{7, -1, 0, 0xFFFFFFFF},
		{9, 1<<32 + 7, 0, 7},
		{11, -2, 0, 0xFFFFFFFE},
		{1, 1 << 40, -1 << 32, 0},
	} {
		if got := csr.Write(x.n, x.old, x.v); got != x.want {
			t.Errorf("P301: Write(%d, %#x, %#x): %#x, want %#x", x.n, x.old, x.v, got, x.want)
		}
	}
}

func TestP301WriteModel(t *testing.T) {
	for _, n := range numbers() {
		for _, old := range words() {
			for _, v := range words() {
				if got, want := csr.Write(n, old, v), writeOf(n, old, v); got != want {
					t.Fatalf("P301: Write(%d, %#x, %#x): %#x, want %#x", n, old, v, got, want)
				}
			}
		}
	}
}

// rows is what becomes of the lowest four bits of Status, written PS, S, PIE, IE: by a trap, by sret; and is it user mode's.
var rows = []struct {
	status, enter, leave int
	user                 bool
}{
	{0b0000, 0b0100, 0b0010, true},
	{0b0001, 0b0110, 0b0010, true},
	{0b0010, 0b0100, 0b0011, true},
	{0b0011, 0b0110, 0b0011, true},
	{0b0100, 0b1100, 0b0010, false},
	{0b0101, 0b1110, 0b0010, false},
	{0b0110, 0b1100, 0b0011, false},
	{0b0111, 0b1110, 0b0011, false},
	{0b1000, 0b0100, 0b0110, true},
	{0b1001, 0b0110, 0b0110, true},
	{0b1010, 0b0100, 0b0111, true},
	{0b1011, 0b0110, 0b0111, true},
	{0b1100, 0b1100, 0b0110, false},
	{0b1101, 0b1110, 0b0110, false},
	{0b1110, 0b1100, 0b0111, false},
	{0b1111, 0b1110, 0b0111, false},
}

func TestP302Examples(t *testing.T) {
	if got := csr.Enter(1); got != 6 {
		t.Errorf("P302: Enter(1): %d, want 6", got)
	}
	if got := csr.Leave(6); got != 3 {
		t.Errorf("P302: Leave(6): %d, want 3", got)
	}
	if !csr.User(csr.Leave(6)) || csr.User(csr.Enter(1)) {
		t.Error("P302: a trap leads out of user mode, sret back")
	}
}

// TestP302Rows asks for all of Status's bits, beside other ones, which are 0 in what is told.
func TestP302Rows(t *testing.T) {
	for _, x := range rows {
		for _, w := range words() {
			status := w&^15 | x.status
			if got := csr.Enter(status); got != x.enter {
				t.Errorf("P302: Enter(%#x): %#b, want %#b", status, got, x.enter)
			}
			if got := csr.Leave(status); got != x.leave {
				t.Errorf("P302: Leave(%#x): %#b, want %#b", status, got, x.leave)
			}
			if got := csr.User(status); got != x.user {
				t.Errorf("P302: User(%#x): %v, want %v", status, got, x.user)
			}
		}
	}
}

// told is all that the calls tell of a register's number and two words.
type told struct {
	mask, write, enter, leave int
	user                      bool
}

func tell(n, old, v int) told {
	return told{csr.Mask(n), csr.Write(n, old, v), csr.Enter(old), csr.Leave(v), csr.User(old)}
}

// TestP303 plays the same calls twice, the second time from behind and beside others: nothing is kept between calls.
func TestP303(t *testing.T) {
	var calls [][3]int
	for _, n := range numbers() {
		for k, w := range words() {
			calls = append(calls, [3]int{n, w, w>>1 + k})
		}
	}
	first := make([]told, len(calls))
	for k, c := range calls {
		first[k] = tell(c[0], c[1], c[2])
	}
	t.Run("again", func(t *testing.T) {
		for worker := range 4 {
			t.Run(strconv.Itoa(worker), func(t *testing.T) {
				t.Parallel()
				for k := len(calls) - 1; k >= 0; k-- {
					c := calls[k]
					if got := tell(c[0], c[1], c[2]); got != first[k] {
						t.Errorf("P303: of %v: %+v, then %+v", c, first[k], got)
					}
				}
			})
		}
	})
}
