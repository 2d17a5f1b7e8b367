package word_test

import (
	"math"
	"math/big"
	"testing"

	"trunnion/word"
)

const (
	top  = 1 << 31   // the highest bit of a word
	last = 1<<32 - 1 // the greatest word
)

// edges are ints at which a word's bits, its sign or the kind int end, and some between.
var edges = []int{
	0, 1, 2, 3, 5, 7, 31, 32, 33, 0x7FFF, 0x8000, 0xFFFF, 1 << 16, 0xABCD1234,
	top - 1, top, top + 1, last - 1, last, 1 << 32, 1<<32 + 1, 1<<33 + 5, 1 << 40, 0x123456789ABCDEF0,
	-1, -2, -5, -31, -32, -33, -top, -top - 1, -top + 1, -last, -1 << 32, -1<<32 - 1,
	math.MaxInt, math.MaxInt - 1, math.MinInt, math.MinInt + 1,
}

type row struct {
	what      string
	got, want int
}

func check(t *testing.T, rows []row) {
	t.Helper()
	for _, r := range rows {
		if r.got != r.want {
			t.Errorf("%s: %#x, want %#x", r.what, r.got, r.want)
		}
	}
}

// modulus is 2^32.
func modulus() *big.Int { return new(big.Int).Lsh(big.NewInt(1), 32) }

// wordOf is the model of Of: what is left of n by 2^32, never below 0.
func wordOf(n *big.Int) int {
	return int(new(big.Int).Mod(n, modulus()).Int64())
}

// signedOf is the model of Signed.
func signedOf(n int) *big.Int {
	w := big.NewInt(int64(wordOf(big.NewInt(int64(n)))))
	if w.Bit(31) == 1 {
		w.Sub(w, modulus())
	}
	return w
}

// bitOf is bit i of n, as an int of two's complement has it.
func bitOf(n, i int) int { return int(big.NewInt(int64(n)).Bit(i)) }

// gathered is the word whose bit i is what from tells.
func gathered(from func(i int) int) int {
	w := 0
	for i := range 32 {
		w |= from(i) << i
	}
	return w
}

// shiftOf is the model of the places by which a shift moves: n less all its multiples of 32.
func shiftOf(n int) int {
	return int(new(big.Int).Mod(big.NewInt(int64(n)), big.NewInt(32)).Int64())
}

func TestP101Rows(t *testing.T) {
	check(t, []row{
		{"Of(0)", word.Of(0), 0},
		{"Of(7)", word.Of(7), 7},
		{"Of(2^32 - 1)", word.Of(last), last},
		{"Of(2^32)", word.Of(1 << 32), 0},
		{"Of(-1)", word.Of(-1), last},
		{"Of(least int)", word.Of(math.MinInt), 0},
		{"Of(greatest int)", word.Of(math.MaxInt), last},
		{"Signed(5)", word.Signed(5), 5},
		{"Signed(2^31 - 1)", word.Signed(top - 1), top - 1},
		{"Signed(2^31)", word.Signed(top), -top},
		{"Signed(2^32 - 1)", word.Signed(last), -1},
		{"Signed(-2^31)", word.Signed(-top), -top},
		{"Signed(2^32 + 3)", word.Signed(1<<32 + 3), 3},
		{"Add(2^32 - 1, 2)", word.Add(last, 2), 1},
		{"Add(2, 3)", word.Add(2, 3), 5},
		{"Add of the greatest ints", word.Add(math.MaxInt, math.MaxInt), last - 1},
		{"Sub(0, 1)", word.Sub(0, 1), last},
		{"Sub(9, 4)", word.Sub(9, 4), 5},
		{"Mul(6, 7)", word.Mul(6, 7), 42},
		{"Mul(2^16, 2^16)", word.Mul(1<<16, 1<<16), 0},
		{"Mul(2^32 - 1, 2^32 - 1)", word.Mul(last, last), 1},
		{"Mul(-3, 5)", word.Mul(-3, 5), last - 14},
	})
}

func TestP101Division(t *testing.T) {
	check(t, []row{
		{"Div(7, 2)", word.Div(7, 2), 3},
		{"Div(-1, 2)", word.Div(-1, 2), top - 1},
		{"Div(2^31, -1)", word.Div(top, -1), 0},
		{"Div(5, 0)", word.Div(5, 0), last},
		{"Div(0, 0)", word.Div(0, 0), last},
		{"Div(5, 2^32)", word.Div(5, 1<<32), last},
		{"Div(2^33 + 5, 5)", word.Div(1<<33+5, 5), 1},
		{"Rem(7, 4)", word.Rem(7, 4), 3},
		{"Rem(-1, 16)", word.Rem(-1, 16), 15},
		{"Rem(5, -1)", word.Rem(5, -1), 5},
		{"Rem(5, 0)", word.Rem(5, 0), 5},
		{"Rem(-1, 0)", word.Rem(-1, 0), last},
		{"Rem(2^33 + 5, 2^32)", word.Rem(1<<33+5, 1<<32), 5},
	})
}

func TestP101Model(t *testing.T) {
	for _, a := range edges {
		x := big.NewInt(int64(a))
		check(t, []row{
			{"Of", word.Of(a), wordOf(x)},
			{"Signed", word.Signed(a), int(signedOf(a).Int64())},
		})
		for _, b := range edges {
			y := big.NewInt(int64(b))
			check(t, []row{
				{"Add", word.Add(a, b), wordOf(new(big.Int).Add(x, y))},
				{"Sub", word.Sub(a, b), wordOf(new(big.Int).Sub(x, y))},
				{"Mul", word.Mul(a, b), wordOf(new(big.Int).Mul(x, y))},
			})
			quotient, rest := last, wordOf(x)
			if wordOf(y) != 0 {
				quotient, rest = wordOf(x)/wordOf(y), wordOf(x)%wordOf(y)
			}
			check(t, []row{
				{"Div", word.Div(a, b), quotient},
				{"Rem", word.Rem(a, b), rest},
			})
		}
	}
}

func TestP102Rows(t *testing.T) {
	check(t, []row{
		{"Left(1, 31)", word.Left(1, 31), top},
		{"Left(3, 31)", word.Left(3, 31), top},
		{"Left(1, 32)", word.Left(1, 32), 1},
		{"Left(1, 33)", word.Left(1, 33), 2},
		{"Left(1, -1)", word.Left(1, -1), top},
		{"Right(-1, 28)", word.Right(-1, 28), 15},
		{"Right(2^31, 31)", word.Right(top, 31), 1},
		{"Right(2^32, 1)", word.Right(1<<32, 1), 0},
		{"Right(8, 32)", word.Right(8, 32), 8},
		{"Arith(2^31, 31)", word.Arith(top, 31), last},
		{"Arith(2^31 - 1, 30)", word.Arith(top-1, 30), 1},
		{"Arith(8, -30)", word.Arith(8, -30), 2},
		{"Arith(2^32 + 8, 2)", word.Arith(1<<32+8, 2), 2},
		{"Bits(0xABCD, 15, 8)", word.Bits(0xABCD, 15, 8), 0xAB},
		{"Bits(-1, 31, 0)", word.Bits(-1, 31, 0), last},
		{"Bits(2^31, 31, 31)", word.Bits(top, 31, 31), 1},
		{"Bits(1, 0, 0)", word.Bits(1, 0, 0), 1},
		{"Bits(0xABCD, 3, 4)", word.Bits(0xABCD, 3, 4), 0},
		{"Bits(-1, 32, 0)", word.Bits(-1, 32, 0), 0},
		{"Bits(-1, 40, 35)", word.Bits(-1, 40, 35), 0},
		{"Bits(-1, 2, -1)", word.Bits(-1, 2, -1), 0},
		{"Bits(-1, 2^32 + 31, 0)", word.Bits(-1, 1<<32+31, 0), 0},
		{"Bits(-1, 31 - 2^32, 0)", word.Bits(-1, 31-1<<32, 0), 0},
		{"Bits(-1, 31, 2^32)", word.Bits(-1, 31, 1<<32), 0},
		{"Bits(-1, 31, -2^32)", word.Bits(-1, 31, -1<<32), 0},
		{"Bits of the ends of int", word.Bits(-1, math.MaxInt, math.MinInt), 0},
		{"Extend(0x8000, 16)", word.Extend(0x8000, 16), 0xFFFF8000},
		{"Extend(0x7FFF, 16)", word.Extend(0x7FFF, 16), 0x7FFF},
		{"Extend(0xF7FFF, 16)", word.Extend(0xF7FFF, 16), 0x7FFF},
		{"Extend(1, 1)", word.Extend(1, 1), last},
		{"Extend(-1, 0)", word.Extend(-1, 0), 0},
		{"Extend(-1, -5)", word.Extend(-1, -5), 0},
		{"Extend(-1, least int)", word.Extend(-1, math.MinInt), 0},
		{"Extend(2^31, 32)", word.Extend(top, 32), top},
		{"Extend(2^31, 33)", word.Extend(top, 33), top},
		{"Extend(5, greatest int)", word.Extend(5, math.MaxInt), 5},
	})
}

func TestP102Shifts(t *testing.T) {
	for _, a := range edges {
		for _, n := range edges {
			s := shiftOf(n)
			left := gathered(func(i int) int {
				if i < s {
					return 0
				}
				return bitOf(a, i-s)
			})
			right := gathered(func(i int) int {
				if i+s > 31 {
					return 0
				}
				return bitOf(a, i+s)
			})
			arith := gathered(func(i int) int { return bitOf(a, min(i+s, 31)) })
			check(t, []row{
				{"Left", word.Left(a, n), left},
				{"Right", word.Right(a, n), right},
				{"Arith", word.Arith(a, n), arith},
			})
		}
	}
}

func TestP102Order(t *testing.T) {
	for _, a := range edges {
		for _, b := range edges {
			if got, want := word.Less(a, b), signedOf(a).Cmp(signedOf(b)) < 0; got != want {
				t.Errorf("Less(%d, %d): %v, want %v", a, b, got, want)
			}
			below := wordOf(big.NewInt(int64(a))) < wordOf(big.NewInt(int64(b)))
			if got := word.Below(a, b); got != below {
				t.Errorf("Below(%d, %d): %v, want %v", a, b, got, below)
			}
		}
	}
	if !word.Less(top, 0) || word.Less(0, top) || word.Less(3, 3) {
		t.Error("Less: 2^31 is below 0 with a sign, and nothing below itself")
	}
	if !word.Below(0, top) || word.Below(-1, 0) || word.Below(3, 3) {
		t.Error("Below: 2^31 is above 0 without a sign, and nothing below itself")
	}
}

func TestP102BitsModel(t *testing.T) {
	for _, w := range edges {
		for high := -2; high <= 34; high++ {
			for low := -2; low <= 34; low++ {
				want := 0
				if high <= 31 && high >= low && low >= 0 {
					want = gathered(func(i int) int {
						if i > high-low {
							return 0
						}
						return bitOf(w, low+i)
					})
				}
				if got := word.Bits(w, high, low); got != want {
					t.Errorf("Bits(%#x, %d, %d): %#x, want %#x", w, high, low, got, want)
				}
			}
		}
	}
}

func TestP102ExtendModel(t *testing.T) {
	for _, w := range edges {
		for n := -2; n <= 66; n++ {
			want := 0
			if n >= 1 {
				want = gathered(func(i int) int { return bitOf(w, min(i, n-1, 31)) })
			}
			if got := word.Extend(w, n); got != want {
				t.Errorf("Extend(%#x, %d): %#x, want %#x", w, n, got, want)
			}
		}
	}
}

// answers is what every call tells of a and b.
func answers(a, b int) [14]int {
	number := func(ok bool) int {
		if ok {
			return 1
		}
		return 0
	}
	return [14]int{
		word.Of(a), word.Signed(a), word.Add(a, b), word.Sub(a, b), word.Mul(a, b), word.Div(a, b), word.Rem(a, b),
		word.Left(a, b), word.Right(a, b), word.Arith(a, b), number(word.Less(a, b)), number(word.Below(a, b)),
		word.Bits(a, 31, b), word.Extend(a, b),
	}
}

// TestP103 plays the same calls twice, the second time from behind and beside others: nothing is kept between calls.
func TestP103(t *testing.T) {
	type pair struct{ a, b int }
	first := map[pair][14]int{}
	for _, a := range edges {
		for _, b := range edges {
			first[pair{a, b}] = answers(a, b)
		}
	}
	t.Run("again", func(t *testing.T) {
		for worker := range 4 {
			t.Run(string(rune('a'+worker)), func(t *testing.T) {
				t.Parallel()
				for i := len(edges) - 1; i >= 0; i-- {
					for j := len(edges) - 1; j >= 0; j-- {
						a, b := edges[i], edges[j]
						if got := answers(a, b); got != first[pair{a, b}] {
							t.Errorf("P103: of %d and %d: %v, then %v", a, b, first[pair{a, b}], got)
						}
					}
				}
			})
		}
	})
}
