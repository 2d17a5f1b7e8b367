package tlb_test

import (
	"math"
	"slices"
	"sync"
	"testing"

	"trunnion/tlb"
)

// kept is one entry, as the model keeps it.
type kept struct{ tag, vpn, entry int }

// model is a Tlb as the chapter says it: a row of entries by age, gone through from its beginning each time.
type model struct {
	places int
	row    []kept
}

func newModel(n int) *model {
	switch {
	case n < 1:
		return &model{places: 1}
	case n > 256:
		return &model{places: 256}
	}
	return &model{places: n}
}

func (m *model) put(tag, vpn, entry int) {
	for k, e := range m.row {
		if e.tag == tag && e.vpn == vpn {
			m.row[k].entry = entry
			return
		}
	}
	row := append(slices.Clone(m.row), kept{tag, vpn, entry})
	m.row = row[max(len(row)-m.places, 0):]
}

func (m *model) look(tag, vpn int) (int, bool) {
	for _, e := range m.row {
		if e.tag == tag && e.vpn == vpn {
			return e.entry, true
		}
	}
	return 0, false
}

func (m *model) flush(tag int) {
	var row []kept
	for _, e := range m.row {
		if e.tag != tag {
			row = append(row, e)
		}
	}
	m.row = row
}

func (m *model) evict(k int) {
	var row []kept
	for i, e := range m.row {
		if i != k {
			row = append(row, e)
		}
	}
	m.row = row
}

// call is what a Tlb and its model can both be asked, by numbers: what kind of call, and what is handed in.
type call struct{ kind, a, b, c int }

const (
	put = iota
	look
	flush
	evict
)

// told is what one call answers, and how many entries there are after it.
type told struct {
	entry int
	ok    bool
	n     int
}

func ask(t *tlb.Tlb, c call) told {
	var x told
	switch c.kind {
	case put:
		t.Put(c.a, c.b, c.c)
	case look:
		x.entry, x.ok = t.Look(c.a, c.b)
	case flush:
		t.Flush(c.a)
	case evict:
		t.Evict(c.a)
	}
	x.n = t.Len()
	return x
}

func askModel(m *model, c call) told {
	var x told
	switch c.kind {
	case put:
		m.put(c.a, c.b, c.c)
	case look:
		x.entry, x.ok = m.look(c.a, c.b)
	case flush:
		m.flush(c.a)
	case evict:
		m.evict(c.a)
	}
	x.n = len(m.row)
	return x
}

// row makes n calls by a rule: few tags and vpns, so that they meet; of the kinds the one that fills most often.
func row(seed uint32, n, tags, vpns int) []call {
	next := func(below int) int {
		seed = seed*1664525 + 1013904223
		return int(seed>>8) % below
	}
	var list []call
	for range n {
		c := call{kind: put, a: next(tags) - tags/2, b: next(vpns) - vpns/2, c: next(1<<20) - 1<<19}
		switch next(16) {
		case 0, 1, 2, 3, 4, 5:
			c.kind = look
		case 6:
			c.kind, c.a = evict, next(vpns)-2
		case 7:
			if next(4) == 0 {
				c.kind = flush
			}
		}
		list = append(list, c)
	}
	return list
}

// same holds all that can be told of a Tlb against its model, but for the ages.
func same(t *testing.T, x *tlb.Tlb, m *model, tags, vpns []int) {
	t.Helper()
	if x.Len() != len(m.row) {
		t.Errorf("P601: Len: %d, want %d", x.Len(), len(m.row))
	}
	for _, tag := range tags {
		for _, vpn := range vpns {
			got, ok := x.Look(tag, vpn)
			if want, wok := m.look(tag, vpn); got != want || ok != wok {
				t.Errorf("P601: Look(%d, %d): %d, %v, want %d, %v", tag, vpn, got, ok, want, wok)
			}
		}
	}
}

// has holds a Tlb to these entries, the eldest first, and empties it to see their ages.
func has(t *testing.T, x *tlb.Tlb, want ...kept) {
	t.Helper()
	for left := len(want); left > 0; left-- {
		if x.Len() != left {
			t.Errorf("P601: Len: %d, want %d", x.Len(), left)
		}
		for k, e := range want {
			entry, ok := x.Look(e.tag, e.vpn)
			if here := k >= len(want)-left; ok != here || here && entry != e.entry || !here && entry != 0 {
				t.Errorf("P601: of the last %d of %v: Look(%d, %d): %d, %v", left, want, e.tag, e.vpn, entry, ok)
			}
		}
		x.Evict(0)
	}
	if x.Len() != 0 {
		t.Errorf("P601: Len: %d, want 0", x.Len())
	}
}

// filled is a Tlb of n places, full: tag 7, vpns from 0 on, each vpn's entry 100 more.
func filled(n int) *tlb.Tlb {
	x := tlb.New(n)
	for vpn := range n {
		x.Put(7, vpn, 100+vpn)
	}
	return x
}

func TestP601Examples(t *testing.T) {
	x := tlb.New(1)
	x.Put(0, 1, 5)
	if e, ok := x.Look(0, 1); e != 5 || !ok {
		t.Errorf("P601: Look(0, 1): %d, %v, want 5", e, ok)
	}
	x.Put(0, 2, 6)
	if e, ok := x.Look(0, 1); e != 0 || ok {
		t.Errorf("P601: Look(0, 1): %d, %v, want false", e, ok)
	}
	if e, ok := x.Look(0, 2); e != 6 || !ok {
		t.Errorf("P601: Look(0, 2): %d, %v, want 6", e, ok)
	}
}

func TestP601New(t *testing.T) {
	for _, x := range []struct{ n, places int }{
		{1, 1}, {2, 2}, {3, 3}, {16, 16}, {255, 255}, {256, 256},
		{0, 1}, {-1, 1}, {-256, 1}, {-1 << 32, 1}, {math.MinInt, 1},
		{257, 256}, {512, 256}, {1 << 31, 256}, {1<<32 + 1, 256}, {math.MaxInt, 256},
	} {
		l := tlb.New(x.n)
		if l.Len() != 0 {
			t.Errorf("P601: New(%d): %d entries", x.n, l.Len())
		}
		if e, ok := l.Look(0, 0); e != 0 || ok {
			t.Errorf("P601: New(%d): Look(0, 0): %d, %v", x.n, e, ok)
		}
		for vpn := range 2*x.places + 3 {
			l.Put(0, vpn, vpn+1)
			if want := min(vpn+1, x.places); l.Len() != want {
				t.Errorf("P601: New(%d): %d entries after %d, want %d", x.n, l.Len(), vpn+1, want)
			}
			for d := range vpn + 1 {
				e, ok := l.Look(0, vpn-d)
				if here := d < x.places; ok != here || here && e != vpn-d+1 || !here && e != 0 {
					t.Fatalf("P601: New(%d): after %d entries: Look(0, %d): %d, %v", x.n, vpn+1, vpn-d, e, ok)
				}
			}
		}
	}
}

// TestP601Put: an entry in the place of another has its age; one that is behind all others is the youngest.
func TestP601Put(t *testing.T) {
	x := filled(3)
	x.Put(7, 0, 55)
	has(t, x, kept{7, 0, 55}, kept{7, 1, 101}, kept{7, 2, 102})

	x = filled(3)
	x.Put(7, 1, 0)
	x.Put(7, 3, 103)
	has(t, x, kept{7, 1, 0}, kept{7, 2, 102}, kept{7, 3, 103})

	x = filled(3)
	x.Put(7, 0, 55)
	x.Put(7, 0, 56)
	x.Put(7, 3, 103)
	if _, ok := x.Look(7, 0); ok {
		t.Error("P601: an entry in the place of another is younger than that one")
	}
	x.Put(7, 0, 57)
	has(t, x, kept{7, 2, 102}, kept{7, 3, 103}, kept{7, 0, 57})

	x = tlb.New(4)
	x.Put(1, 2, 12)
	x.Put(2, 1, 21)
	x.Put(1, 1, 11)
	x.Put(2, 2, 22)
	x.Put(2, 1, 210)
	x.Put(1, 2, 120)
	has(t, x, kept{1, 2, 120}, kept{2, 1, 210}, kept{1, 1, 11}, kept{2, 2, 22})
}

// TestP601Look: a look changes nothing, the ages neither, and tells any entry as it was put.
func TestP601Look(t *testing.T) {
	x := filled(3)
	for range 5 {
		x.Look(7, 0)
		x.Look(7, 9)
		x.Look(8, 0)
	}
	x.Put(7, 3, 103)
	has(t, x, kept{7, 1, 101}, kept{7, 2, 102}, kept{7, 3, 103})

	for _, entry := range []int{0, 1, -1, 1<<32 - 1, 1 << 32, math.MinInt, math.MaxInt} {
		x = tlb.New(2)
		x.Put(3, 4, entry)
		if e, ok := x.Look(3, 4); e != entry || !ok {
			t.Errorf("P601: Look: %d, %v, want %d", e, ok, entry)
		}
	}
}

// TestP601Any: tags and vpns are any ints; none stands for another.
func TestP601Any(t *testing.T) {
	list := []int{0, 1, 2, -1, -2, 1 << 20, 1<<20 + 1, 1 << 31, 1<<32 - 1, 1 << 32, 1<<32 + 1, -1 << 32, 1 << 62, math.MinInt, math.MinInt + 1, math.MaxInt}
	x, m := tlb.New(256), newModel(256)
	for i, tag := range list {
		for j, vpn := range list {
			x.Put(tag, vpn, 16*i+j-1)
			m.put(tag, vpn, 16*i+j-1)
		}
	}
	same(t, x, m, list, list)
	for _, tag := range list {
		x.Flush(tag)
		m.flush(tag)
		same(t, x, m, list, list)
	}
}

func TestP601Flush(t *testing.T) {
	x := tlb.New(6)
	for k := range 6 {
		x.Put(k%3, k, 10+k)
	}
	x.Flush(5)
	x.Flush(-1)
	if x.Len() != 6 {
		t.Errorf("P601: Flush of a tag that is not there leaves %d", x.Len())
	}
	x.Flush(1)
	x.Put(1, 4, 44)
	x.Put(1, 9, 99)
	has(t, x, kept{0, 0, 10}, kept{2, 2, 12}, kept{0, 3, 13}, kept{2, 5, 15}, kept{1, 4, 44}, kept{1, 9, 99})

	x = filled(4)
	x.Flush(7)
	x.Flush(7)
	if e, ok := x.Look(7, 2); e != 0 || ok || x.Len() != 0 {
		t.Errorf("P601: Flush left %d: %d, %v", x.Len(), e, ok)
	}
	for vpn := range 5 {
		x.Put(7, vpn, vpn)
	}
	has(t, x, kept{7, 1, 1}, kept{7, 2, 2}, kept{7, 3, 3}, kept{7, 4, 4})
}

func TestP601Evict(t *testing.T) {
	for k := range 5 {
		x := filled(5)
		x.Evict(k)
		var want []kept
		for vpn := range 5 {
			if vpn != k {
				want = append(want, kept{7, vpn, 100 + vpn})
			}
		}
		if e, ok := x.Look(7, k); e != 0 || ok {
			t.Errorf("P601: after Evict(%d): Look(7, %d): %d, %v", k, k, e, ok)
		}
		x.Put(7, 8, 108)
		has(t, x, append(want, kept{7, 8, 108})...)
	}
	for _, k := range []int{-1, -2, -5, 5, 6, 255, 256, -1 << 32, 1 << 32, math.MinInt, math.MaxInt} {
		x := filled(5)
		x.Evict(k)
		has(t, x, kept{7, 0, 100}, kept{7, 1, 101}, kept{7, 2, 102}, kept{7, 3, 103}, kept{7, 4, 104})
	}
	x := tlb.New(5)
	for k := -1; k < 2; k++ {
		x.Evict(k)
	}
	has(t, x)
	x.Put(7, 0, 100)
	x.Put(7, 1, 101)
	x.Evict(2)
	has(t, x, kept{7, 0, 100}, kept{7, 1, 101})
}

// between is the numbers from -n up to n.
func between(n int) []int {
	var list []int
	for k := -n; k <= n; k++ {
		list = append(list, k)
	}
	return list
}

// TestP601Play plays long rows of calls on a Tlb and on its model.
func TestP601Play(t *testing.T) {
	for seed, n := range []int{-3, 1, 2, 3, 8, 31, 64, 256, 300} {
		tags, vpns := 5, n+9
		x, m := tlb.New(n), newModel(n)
		for k, c := range row(uint32(seed), 6000, tags, vpns) {
			if got, want := ask(x, c), askModel(m, c); got != want {
				t.Fatalf("P601: of %d places: call %d, %v: %v, want %v", n, k, c, got, want)
			}
		}
		same(t, x, m, between(tags), between(vpns))
		has(t, x, m.row...)
	}
}

// TestP601Again: the same calls tell the same, however often they are played, beside others too.
func TestP601Again(t *testing.T) {
	calls := row(99, 4000, 4, 60)
	play := func() []told {
		x := tlb.New(40)
		var list []told
		for _, c := range calls {
			list = append(list, ask(x, c))
		}
		return list
	}
	want := play()
	var wait sync.WaitGroup
	var got [8][]told
	for k := range got {
		wait.Go(func() { got[k] = play() })
	}
	wait.Wait()
	for k, list := range got {
		if !slices.Equal(list, want) {
			t.Errorf("P601: play %d tells otherwise than the first", k)
		}
	}
}

// TestP602: what is done to one is not seen in another.
func TestP602(t *testing.T) {
	a, b := tlb.New(4), tlb.New(4)
	a.Put(1, 2, 3)
	if e, ok := b.Look(1, 2); e != 0 || ok || b.Len() != 0 {
		t.Errorf("P602: what is put into one is seen in another: %d, %v, %d", e, ok, b.Len())
	}
	b.Put(1, 2, 33)
	b.Put(1, 3, 34)
	if e, ok := a.Look(1, 2); e != 3 || !ok || a.Len() != 1 {
		t.Errorf("P602: what is put into one changes another: %d, %v, %d", e, ok, a.Len())
	}
	a.Flush(1)
	a.Evict(0)
	has(t, b, kept{1, 2, 33}, kept{1, 3, 34})
	if n := tlb.New(4).Len(); n != 0 {
		t.Errorf("P602: a new one has %d", n)
	}
}

// TestP602Play: calls on two, one by one in turn, tell what they tell on each alone.
func TestP602Play(t *testing.T) {
	a, b := tlb.New(6), tlb.New(9)
	ma, mb := newModel(6), newModel(9)
	one, two := row(5, 3000, 4, 12), row(6, 3000, 4, 12)
	for k := range one {
		if got, want := ask(a, one[k]), askModel(ma, one[k]); got != want {
			t.Fatalf("P602: the first: call %d, %v: %v, want %v", k, one[k], got, want)
		}
		if got, want := ask(b, two[k]), askModel(mb, two[k]); got != want {
			t.Fatalf("P602: the second: call %d, %v: %v, want %v", k, two[k], got, want)
		}
	}
	has(t, a, ma.row...)
	has(t, b, mb.row...)
}
