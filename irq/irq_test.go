package irq_test

import (
	"math"
	"sync"
	"testing"

	"trunnion/api"
	"trunnion/irq"
)

// modulus is how many words there are.
const modulus = 1 << 32

// asWord is a number as a word without a sign, found by division.
func asWord(n int) int { return (n%modulus + modulus) % modulus }

// has tells whether a number has the bit of a line: its lowest bits, one by one, found by halves.
func has(n, line int) bool {
	n = asWord(n)
	for range line {
		n /= 2
	}
	return n%2 == 1
}

// pendingOf is the model of Pending: the sum of what the lines' bits count.
func pendingOf(time, cmp, waiting, messages int) int {
	sum := 0
	if asWord(cmp) != 0 && asWord(time) >= asWord(cmp) {
		sum += 1
	}
	if waiting > 0 {
		sum += 2
	}
	if messages > 0 {
		sum += 4
	}
	return sum
}

// found is a number, or that there is none.
type found struct {
	n  int
	ok bool
}

// pickOf is the model of Pick: the lines one by one, from the highest down, so that the least is told last.
func pickOf(pend, ien int) found {
	var f found
	for line := 2; line >= 0; line-- {
		if has(pend, line) && has(ien, line) {
			f = found{line, true}
		}
	}
	return f
}

// takesOf is the model of Takes.
func takesOf(status, pend, ien int) found {
	f := pickOf(pend, ien)
	ie, supervisor := has(status, 0), has(status, 2)
	if !f.ok || supervisor && !ie {
		return found{}
	}
	return found{0x80000000 + f.n, true}
}

func pick(pend, ien int) found {
	n, ok := irq.Pick(pend, ien)
	return found{n, ok}
}

func takes(status, pend, ien int) found {
	n, ok := irq.Takes(status, pend, ien)
	return found{n, ok}
}

// numbers are words and other ints: edges, each bit alone, each bit missing, numbers beyond words.
func numbers() []int {
	list := []int{
		0, 3, 5, 6, 7, 9, 10, 11, 12, 13, 14, 15, 0x55555555, 0xAAAAAAAA, 0x7FFFFFFF, 0x80000001, 0xFFFFFFF8, 0xFFFFFFFE, 0xFFFFFFFF,
		-1, -2, -3, -4, -5, -6, -7, -8, -9, math.MinInt, math.MinInt + 1, math.MinInt + 6, math.MaxInt, math.MaxInt - 1, math.MaxInt - 7,
		modulus + 1, modulus + 5, modulus + 6, -modulus, -modulus + 1, -modulus + 5, 1<<40 | 7,
	}
	for k := range 63 {
		list = append(list, 1<<k, ^(1 << k))
	}
	return list
}

func TestP801Examples(t *testing.T) {
	if p := irq.Pending(5, 5, 0, 0); p != 1 {
		t.Errorf("Pending(5, 5, 0, 0) = %d", p)
	}
	if f := takes(api.S, 1, 1); f != (found{}) {
		t.Errorf("Takes(S, 1, 1) = %v", f)
	}
	if f := takes(0, 1, 1); f != (found{api.CInt, true}) {
		t.Errorf("Takes(0, 1, 1) = %v", f)
	}
}

func TestP801PendingLines(t *testing.T) {
	const top = 1<<32 - 1
	for _, x := range []struct{ time, cmp, waiting, messages, want int }{
		{0, 0, 0, 0, 0},
		{top, 0, 0, 0, 0}, // 0 is no time to wait for
		{0, 1, 0, 0, 0},
		{1, 1, 0, 0, 1},
		{4, 5, 0, 0, 0},
		{6, 5, 0, 0, 1},
		{top, top, 0, 0, 1},
		{top - 1, top, 0, 0, 0},
		{0, top, 0, 0, 0},
		{top, 1, 0, 0, 1},
		{1 << 31, 1<<31 - 1, 0, 0, 1}, // no sign
		{1<<31 - 1, 1 << 31, 0, 0, 0},
		{5, -1, 0, 0, 0}, // as words: -1 is the highest
		{-1, 5, 0, 0, 1},
		{-1, -1, 0, 0, 1},
		{-2, -1, 0, 0, 0},
		{-1, -2, 0, 0, 1},
		{1<<32 + 4, 5, 0, 0, 0},
		{1<<32 + 5, 5, 0, 0, 1},
		{5, 1<<32 + 5, 0, 0, 1},
		{5, 1<<32 + 6, 0, 0, 0},
		{math.MaxInt, 1, 0, 0, 1},
		{math.MinInt, 1, 0, 0, 0},
		{math.MinInt + 1, 1, 0, 0, 1},
		{5, 1 << 32, 0, 0, 0}, // 0 as a word, so no time to wait for
		{5, -1 << 32, 0, 0, 0},
		{5, 7 << 32, 0, 0, 0},
		{5, 1 << 62, 0, 0, 0},
		{0, 1 << 32, 0, 0, 0},
		{top, 1 << 32, 0, 0, 0},
		{1 << 32, 1 << 32, 0, 0, 0},
		{-1, math.MinInt, 0, 0, 0},
		{-13, math.MinInt, -4, -2, 0},
		{-1, -1 << 32, 1, 1, 6},
		{5, 1<<32 + 1, 0, 0, 1}, // 1 as a word
		{5, -1<<32 + 1, 0, 0, 1},
		{5, math.MinInt + 1, 0, 0, 1},
		{1 << 32, 1<<32 + 1, 0, 0, 0},
		{1 << 32, 1<<32 - 1, 0, 0, 0},
		{0, 0, 1, 0, 2},
		{0, 0, 16, 0, 2},
		{0, 0, -1, 0, 0},
		{0, 0, math.MaxInt, 0, 2},
		{0, 0, math.MinInt, 0, 0},
		{0, 0, 1 << 32, 0, 2}, // a count, not a word
		{0, 0, 1 << 31, 0, 2},
		{0, 0, 0, 1, 4},
		{0, 0, 0, 99, 4},
		{0, 0, 0, -1, 0},
		{0, 0, 0, math.MaxInt, 4},
		{0, 0, 0, math.MinInt, 0},
		{0, 0, 0, 1 << 32, 4},
		{0, 0, 2, 3, 6},
		{9, 5, 0, 1, 5},
		{9, 5, 1, 0, 3},
		{9, 5, 1, 1, 7},
		{9, 5, -1, -1, 1},
	} {
		if p := irq.Pending(x.time, x.cmp, x.waiting, x.messages); p != x.want {
			t.Errorf("Pending(%d, %d, %d, %d) = %d, not %d", x.time, x.cmp, x.waiting, x.messages, p, x.want)
		}
	}
}

func TestP801PendingAsTheModel(t *testing.T) {
	list := numbers()
	for _, a := range list {
		for i, b := range list {
			c, d := list[(i+7)%len(list)], list[(i+31)%len(list)]
			for _, x := range [][4]int{{a, b, c, d}, {b, c, a, d}, {c, d, b, a}} {
				p, want := irq.Pending(x[0], x[1], x[2], x[3]), pendingOf(x[0], x[1], x[2], x[3])
				if p != want {
					t.Fatalf("Pending(%d, %d, %d, %d) = %d, not %d", x[0], x[1], x[2], x[3], p, want)
				}
			}
		}
	}
}

// TestP801PendingTakesTimeAndCmpAsWords asks with whole multiples of 2^32 laid over time and over cmp: each word tells the same below all of them.
func TestP801PendingTakesTimeAndCmpAsWords(t *testing.T) {
	words := []int{0, 1, 2, 5, 1<<31 - 1, 1 << 31, 1<<32 - 2, 1<<32 - 1}
	above := []int{0, modulus, -modulus, 2 * modulus, 1 << 40, -1 << 40, 1 << 62, -1 << 62, math.MinInt, math.MaxInt - (modulus - 1)}
	for _, time := range words {
		for _, cmp := range words {
			want := 6
			if cmp != 0 && time >= cmp {
				want = 7
			}
			for _, over := range above {
				for _, more := range above {
					if p := irq.Pending(time+over, cmp+more, 1, 1); p != want {
						t.Errorf("Pending(%d, %d, 1, 1) = %d, not %d", time+over, cmp+more, p, want)
					}
				}
			}
		}
	}
}

func TestP801PickLines(t *testing.T) {
	for _, x := range []struct {
		pend, ien int
		want      found
	}{
		{0, 0, found{}},
		{7, 0, found{}},
		{0, 7, found{}},
		{1, 6, found{}},
		{1, 1, found{api.LTimer, true}},
		{2, 2, found{api.LUart, true}},
		{4, 4, found{api.LPort, true}},
		{7, 7, found{api.LTimer, true}},
		{7, 6, found{api.LUart, true}},
		{6, 7, found{api.LUart, true}},
		{7, 4, found{api.LPort, true}},
		{3, 5, found{api.LTimer, true}},
		{6, 5, found{api.LPort, true}},
		{8, 8, found{}}, // no line has this bit
		{0xFFFFFFF8, 0xFFFFFFF8, found{}},
		{-8, -8, found{}},
		{12, 12, found{api.LPort, true}},
		{-1, -1, found{api.LTimer, true}},
		{-1, 2, found{api.LUart, true}},
		{1 << 32, 1 << 32, found{}},
		{math.MinInt, math.MinInt, found{}},
		{math.MinInt + 4, math.MinInt + 6, found{api.LPort, true}},
	} {
		if f := pick(x.pend, x.ien); f != x.want {
			t.Errorf("Pick(%d, %d) = %v, not %v", x.pend, x.ien, f, x.want)
		}
	}
}

func TestP801PickAsTheModel(t *testing.T) {
	list := numbers()
	for _, pend := range list {
		for _, ien := range list {
			if f, want := pick(pend, ien), pickOf(pend, ien); f != want {
				t.Fatalf("Pick(%d, %d) = %v, not %v", pend, ien, f, want)
			}
		}
	}
}

func TestP801TakesByStatus(t *testing.T) {
	const line1 = api.CInt + api.LUart
	for status := range 16 {
		taken := status&(api.S|api.IE) != api.S
		want := found{}
		if taken {
			want = found{line1, true}
		}
		if f := takes(status, 6, 3); f != want {
			t.Errorf("Takes(%d, 6, 3) = %v, not %v", status, f, want)
		}
		if f := takes(status, 5, 2); f != (found{}) {
			t.Errorf("Takes(%d, 5, 2) = %v, and no line is in both", status, f)
		}
	}
}

func TestP801TakesTellsTheLine(t *testing.T) {
	for line, want := range []int{0x80000000, 0x80000001, 0x80000002} {
		for _, status := range []int{0, api.IE, api.IE | api.S, api.PIE | api.PS, -1, -6} {
			if f := takes(status, 7, 1<<line|8); f != (found{want, true}) {
				t.Errorf("Takes(%d, 7, bit %d) = %v, not %d", status, line, f, want)
			}
		}
	}
}

func TestP801TakesAsTheModel(t *testing.T) {
	list := numbers()
	for _, status := range list {
		for _, pend := range list {
			for ien := -8; ien < 16; ien++ {
				if f, want := takes(status, pend, ien), takesOf(status, pend, ien); f != want {
					t.Fatalf("Takes(%d, %d, %d) = %v, not %v", status, pend, ien, f, want)
				}
			}
		}
	}
}

// told is what all calls answer at four numbers.
type told struct {
	pend   int
	picked found
	taken  found
}

func ask(a, b, c, d int) told {
	return told{irq.Pending(a, b, c, d), pick(a, b), takes(a, b, c)}
}

// row asks at a row of numbers that hang on the seed alone.
func row(seed uint32) []told {
	next := func() int {
		seed = seed*1664525 + 1013904223
		return int(int32(seed)) >> (seed >> 8 % 32)
	}
	answers := make([]told, 500)
	for i := range answers {
		answers[i] = ask(next(), next(), next(), next())
	}
	return answers
}

// TestP802SameAnswers asks the same in another order, and at the same time, with other calls between.
func TestP802SameAnswers(t *testing.T) {
	const rows = 8
	var first, again [rows][]told
	for i := range first {
		first[i] = row(uint32(i))
	}
	var wg sync.WaitGroup
	for i := rows - 1; i >= 0; i-- {
		wg.Go(func() { again[i] = row(uint32(i)) })
	}
	wg.Wait()
	for i := range first {
		for k := range first[i] {
			if first[i][k] != again[i][k] {
				t.Fatalf("row %d, call %d: %v, then %v", i, k, first[i][k], again[i][k])
			}
		}
	}
}
