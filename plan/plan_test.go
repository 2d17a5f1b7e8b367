package plan_test

import (
	"math"
	"math/rand"
	"slices"
	"strconv"
	"sync"
	"testing"

	"trunnion/api"
	"trunnion/config"
	"trunnion/plan"
)

const latest = 1 << 40

// example is the chapter's: Major 10, Switch 1, a window 0 to 5 of partition 0.
func example() api.Config {
	return api.Config{Pages: 5, Major: 10, Switch: 1, Parts: []api.Part{{Name: "a", Pages: 1}}, Windows: []api.Window{{Len: 5}}}
}

// base has gaps ahead, between and behind, windows side by side (of one partition, too), and a partition without any.
func base() api.Config {
	return api.Config{
		Pages: 12, Major: 40, Switch: 3,
		Parts:    []api.Part{{Name: "a", Pages: 1}, {Name: "b2", Pages: 3, Action: 1}, {Name: "none", Pages: 1}, {Name: "zz9", Pages: 2}},
		Channels: []api.Channel{{Kind: 1, From: 2, To: 0, Size: 5, Depth: 7}},
		Windows:  []api.Window{{Start: 2, Len: 4, Part: 3}, {Start: 6, Len: 7, Part: 0}, {Start: 13, Len: 5, Part: 0}, {Start: 20, Len: 10, Part: 1}, {Start: 31, Len: 5, Part: 3}},
	}
}

// greatest has the greatest frame, switch and number of windows, and no gap.
func greatest() api.Config {
	c := api.Config{Pages: api.MaxPages, Major: api.MaxFrame, Switch: 1000}
	for k := range api.MaxParts {
		c.Parts = append(c.Parts, api.Part{Name: "p" + strconv.Itoa(k), Pages: 31})
	}
	for k := range api.MaxWin {
		c.Windows = append(c.Windows, api.Window{Start: 3125 * k, Len: 3125, Part: k * 3 % 8})
	}
	return c
}

// least is a frame of one tick.
func least() api.Config {
	return api.Config{Pages: 5, Major: 1, Parts: []api.Part{{Name: "a", Pages: 1}}, Windows: []api.Window{{Len: 1}}}
}

// parts are the partitions of a configuration, and numbers that are none.
func parts(c api.Config) []int {
	l := []int{math.MinInt, -1 << 32, -2, -1, len(c.Parts), len(c.Parts) + 1, 1 << 32, 1<<32 + 1, math.MaxInt}
	for k := range c.Parts {
		l = append(l, k)
	}
	return l
}

// refusedTicks are below 0 or above 2^40.
func refusedTicks() []int {
	return []int{-1, -2, -10, -latest, -1 << 32, math.MinInt, math.MinInt + 1, latest + 1, latest + 2, latest + 10, 2 * latest, 1<<62 + 1, math.MaxInt - 1, math.MaxInt}
}

// holdAt holds At and Runs to the model at a tick.
func holdAt(t *testing.T, c api.Config, f frame, at int) {
	t.Helper()
	want := f.at(at)
	if part, since := plan.At(c, at); part != want.part || since != want.since {
		t.Fatalf("P1501: At(%d): %d, %d, want %d, %d; Major %d, Switch %d, %v", at, part, since, want.part, want.since, c.Major, c.Switch, c.Windows)
	}
	if part, steps := plan.Runs(c, at); part != want.part || steps != want.steps {
		t.Fatalf("P1501: Runs(%d): %d, %t, want %d, %t; Major %d, Switch %d, %v", at, part, steps, want.part, want.steps, c.Major, c.Switch, c.Windows)
	}
}

// holdNext holds Next to the model at a tick.
func holdNext(t *testing.T, c api.Config, f frame, part, at int) {
	t.Helper()
	want, is := f.next(part, at)
	if got, ok := plan.Next(c, part, at); got != want || ok != is {
		t.Fatalf("P1502: Next(%d, %d): %d, %t, want %d, %t; Major %d, Switch %d, %v", part, at, got, ok, want, is, c.Major, c.Switch, c.Windows)
	}
}

// holdSteps holds Steps to the model between two ticks.
func holdSteps(t *testing.T, c api.Config, f frame, part, from, to int) {
	t.Helper()
	want := f.steps(part, from, to)
	if got := plan.Steps(c, part, from, to); got != want {
		t.Fatalf("P1502: Steps(%d, %d, %d): %d, want %d; Major %d, Switch %d, %v", part, from, to, got, want, c.Major, c.Switch, c.Windows)
	}
}

// holdShare holds Share to the model, and to Steps of a frame.
func holdShare(t *testing.T, c api.Config, f frame, part int) {
	t.Helper()
	want := f.share(part)
	if got := plan.Share(c, part); got != want || got != plan.Steps(c, part, 0, c.Major) {
		t.Fatalf("P1502: Share(%d): %d, want %d; Major %d, Switch %d, %v", part, got, want, c.Major, c.Switch, c.Windows)
	}
}

// holdNothing holds calls with one tick, that is refused or whose configuration is, to -1, 0, false.
func holdNothing(t *testing.T, c api.Config, part, at int, why string) {
	t.Helper()
	if part, since := plan.At(c, at); part != -1 || since != 0 {
		t.Errorf("P1501: %s: At(%d): %d, %d, want -1, 0", why, at, part, since)
	}
	if part, steps := plan.Runs(c, at); part != -1 || steps {
		t.Errorf("P1501: %s: Runs(%d): %d, %t, want -1, false", why, at, part, steps)
	}
	if next, ok := plan.Next(c, part, at); next != 0 || ok {
		t.Errorf("P1501: %s: Next(%d, %d): %d, %t, want 0, false", why, part, at, next, ok)
	}
}

func TestP1501Example(t *testing.T) {
	c := example()
	for _, x := range []struct {
		t, part int
		steps   bool
		since   int
	}{{10, 0, false, 0}, {11, 0, true, 1}, {0, 0, false, 0}, {1, 0, true, 1}, {4, 0, true, 4}, {5, -1, false, 0}, {9, -1, false, 0}, {14, 0, true, 4}, {15, -1, false, 0}, {latest, -1, false, 0}, {latest - 2, 0, true, 4}} {
		if part, steps := plan.Runs(c, x.t); part != x.part || steps != x.steps {
			t.Errorf("P1501: Runs(%d): %d, %t, want %d, %t", x.t, part, steps, x.part, x.steps)
		}
		if part, since := plan.At(c, x.t); part != x.part || since != x.since {
			t.Errorf("P1501: At(%d): %d, %d, want %d, %d", x.t, part, since, x.part, x.since)
		}
	}
}

// TestP1501Frames: each tick of the first frames, and of the last ones that are looked at.
func TestP1501Frames(t *testing.T) {
	for _, c := range []api.Config{example(), base(), least()} {
		f := written(c)
		for at := range 4 * c.Major {
			holdAt(t, c, f, at)
			holdAt(t, c, f, latest-at)
			holdAt(t, c, f, 1<<32+at)
			holdAt(t, c, f, 1<<31-at)
		}
	}
	c := greatest()
	f := written(c)
	for _, w := range c.Windows {
		for _, d := range []int{0, 1, 999, 1000, 1001, 3124} {
			for _, begin := range []int{0, c.Major, latest/c.Major*c.Major - c.Major, 1 << 32 / c.Major * c.Major} {
				holdAt(t, c, f, begin+w.Start+d)
			}
		}
	}
}

// TestP1501Windows: a window from a frame's first tick to its last one, and single ticks at both ends.
func TestP1501Windows(t *testing.T) {
	for _, l := range [][]api.Window{
		{{Start: 0, Len: 6}},
		{{Start: 5, Len: 1}},
		{{Start: 0, Len: 1}},
		{{Start: 0, Len: 1}, {Start: 5, Len: 1, Part: 1}},
		{{Start: 0, Len: 1, Part: 1}, {Start: 1, Len: 4}, {Start: 5, Len: 1, Part: 1}},
		{{Start: 2, Len: 2, Part: 1}},
		{{Start: 1, Len: 2, Part: 1}, {Start: 3, Len: 2, Part: 1}},
	} {
		for cut := range 2 {
			c := api.Config{Pages: 6, Major: 6, Switch: cut, Parts: []api.Part{{Name: "a", Pages: 1}, {Name: "b", Pages: 1}}, Windows: l}
			if config.Check(c) != api.OK {
				continue
			}
			f := written(c)
			for at := range 3 * c.Major {
				holdAt(t, c, f, at)
				for _, part := range parts(c) {
					holdNext(t, c, f, part, at)
					for to := range 3 * c.Major {
						holdSteps(t, c, f, part, at, to)
					}
				}
			}
		}
	}
}

// refused are configurations that can't be, each by another fault, most with windows that could be.
func refused() map[string]api.Config {
	l := map[string]api.Config{"nothing": {}}
	for name, turn := range map[string]func(c *api.Config){
		"Pages 4":             func(c *api.Config) { c.Pages = 4 },
		"Pages 257":           func(c *api.Config) { c.Pages = 257 },
		"too few pages":       func(c *api.Config) { c.Parts[1].Pages = 5 },
		"no pages":            func(c *api.Config) { c.Parts[2].Pages = 0 },
		"no name":             func(c *api.Config) { c.Parts[3].Name = "" },
		"a name twice":        func(c *api.Config) { c.Parts[3].Name = "a" },
		"Action 2":            func(c *api.Config) { c.Parts[0].Action = 2 },
		"no partitions":       func(c *api.Config) { c.Parts = nil },
		"too few partitions":  func(c *api.Config) { c.Parts, c.Channels = c.Parts[:3], nil },
		"too many partitions": func(c *api.Config) { c.Parts = make([]api.Part, 9) },
		"a channel to itself": func(c *api.Config) { c.Channels[0].To = 2 },
		"too many channels":   func(c *api.Config) { c.Channels = slices.Repeat(c.Channels, 17) },
		"Major 0":             func(c *api.Config) { c.Major = 0 },
		"Major 0, no windows": func(c *api.Config) { c.Major, c.Windows = 0, nil },
		"Major -40":           func(c *api.Config) { c.Major = -40 },
		"Major 100001":        func(c *api.Config) { c.Major = 100001 },
		"Major 2^32 + 40":     func(c *api.Config) { c.Major = 1<<32 + 40 },
		"Major 35":            func(c *api.Config) { c.Major = 35 },
		"Switch -1":           func(c *api.Config) { c.Switch = -1 },
		"Switch 1001": func(c *api.Config) {
			c.Switch, c.Windows[0], c.Windows = 1001, api.Window{Len: 2000}, c.Windows[:1]
			c.Major = 2000
		},
		"Switch 4":             func(c *api.Config) { c.Switch = 4 },
		"the least Switch":     func(c *api.Config) { c.Switch = math.MinInt },
		"no windows":           func(c *api.Config) { c.Windows = nil },
		"too many windows":     func(c *api.Config) { c.Windows = slices.Repeat([]api.Window{{Len: 4}}, 33) },
		"a Start below 0":      func(c *api.Config) { c.Windows[0].Start = -1 },
		"windows that overlap": func(c *api.Config) { c.Windows[1].Start = 5 },
		"windows out of order": func(c *api.Config) { c.Windows[0], c.Windows[1] = c.Windows[1], c.Windows[0] },
		"the greatest Len":     func(c *api.Config) { c.Windows[4].Len = math.MaxInt },
		"no such Part":         func(c *api.Config) { c.Windows[4].Part = 4 },
		"Part -1":              func(c *api.Config) { c.Windows[0].Part = -1 },
	} {
		c := base()
		turn(&c)
		l[name] = c
	}
	return l
}

// TestP1501Config: of a configuration that can't be nothing is told, at no tick and of no partition.
func TestP1501Config(t *testing.T) {
	for why, c := range refused() {
		if config.Check(c) == api.OK {
			t.Fatalf("%s: it can be", why)
		}
		for _, part := range parts(base()) {
			for _, at := range append(refusedTicks(), 0, 1, 7, 9, 13, 25, 35, 45, latest-20, latest) {
				holdNothing(t, c, part, at, why)
				for _, to := range []int{at, at + 1, 100, latest, math.MaxInt} {
					if n := plan.Steps(c, part, at, to); n != 0 {
						t.Errorf("P1501: %s: Steps(%d, %d, %d): %d, want 0", why, part, at, to, n)
					}
				}
			}
			if n := plan.Share(c, part); n != 0 {
				t.Errorf("P1501: %s: Share(%d): %d, want 0", why, part, n)
			}
		}
	}
}

// TestP1501Ticks: nothing is told of a tick below 0 or above 2^40, with a partition that has all ticks, too.
func TestP1501Ticks(t *testing.T) {
	for _, c := range []api.Config{least(), example(), base(), greatest()} {
		for _, part := range parts(c) {
			for _, at := range refusedTicks() {
				holdNothing(t, c, part, at, "a tick that is refused")
				for _, other := range append(refusedTicks(), 0, 1, 100, latest-100, latest) {
					if n := plan.Steps(c, part, at, other); n != 0 {
						t.Errorf("P1501: Steps(%d, %d, %d): %d, want 0", part, at, other, n)
					}
					if n := plan.Steps(c, part, other, at); n != 0 {
						t.Errorf("P1501: Steps(%d, %d, %d): %d, want 0", part, other, at, n)
					}
				}
			}
		}
	}
	c := least()
	if part, since := plan.At(c, latest); part != 0 || since != 0 {
		t.Errorf("P1501: At(2^40): %d, %d, want 0, 0", part, since)
	}
	if part, steps := plan.Runs(c, latest); part != 0 || !steps {
		t.Errorf("P1501: Runs(2^40): %d, %t, want 0, true", part, steps)
	}
	if at, ok := plan.Next(c, 0, latest); at != latest || !ok {
		t.Errorf("P1502: Next(0, 2^40): %d, %t, want 2^40, true", at, ok)
	}
	if n := plan.Steps(c, 0, 0, latest); n != latest {
		t.Errorf("P1502: Steps(0, 0, 2^40): %d, want 2^40", n)
	}
}

func TestP1502Example(t *testing.T) {
	c := example()
	if n := plan.Steps(c, 0, 0, 20); n != 8 {
		t.Errorf("P1502: Steps(0, 0, 20): %d, want 8", n)
	}
	if n := plan.Share(c, 0); n != 4 {
		t.Errorf("P1502: Share(0): %d, want 4", n)
	}
	for at, want := range []int{1, 1, 2, 3, 4, 11, 11, 11, 11, 11, 11, 11, 12, 13, 14, 21} {
		if next, ok := plan.Next(c, 0, at); next != want || !ok {
			t.Errorf("P1502: Next(0, %d): %d, %t, want %d, true", at, next, ok, want)
		}
	}
}

// TestP1502Few: all pairs of ticks of the first frames, and all partitions.
func TestP1502Few(t *testing.T) {
	for _, c := range []api.Config{least(), example(), base()} {
		f := written(c)
		for _, part := range parts(c) {
			holdShare(t, c, f, part)
			for from := range 3*c.Major + 2 {
				holdNext(t, c, f, part, from)
				counted := 0
				for to := range 3*c.Major + 2 {
					holdSteps(t, c, f, part, from, to)
					if n := plan.Steps(c, part, from, to); n != counted {
						t.Fatalf("P1502: Steps(%d, %d, %d): %d, counted %d", part, from, to, n, counted)
					}
					if owner, steps := plan.Runs(c, to); to >= from && owner == part && steps {
						counted++
					}
				}
			}
		}
	}
}

// TestP1502Far: far ticks, whose frames nobody could go over one by one.
func TestP1502Far(t *testing.T) {
	for _, c := range []api.Config{least(), example(), base(), greatest()} {
		f := written(c)
		ticks := []int{0, 1, c.Switch, c.Major - 1, c.Major, c.Major + 1, 1<<31 - 1, 1 << 31, 1<<32 - 1, 1 << 32, 1<<32 + 1,
			latest/c.Major*c.Major - 1, latest / c.Major * c.Major, latest/2 + 13, latest - c.Major, latest - 1, latest}
		for _, part := range []int{0, len(c.Parts) - 1, len(c.Parts), -1} {
			holdShare(t, c, f, part)
			for _, from := range ticks {
				holdNext(t, c, f, part, from)
				for _, to := range ticks {
					holdSteps(t, c, f, part, from, to)
				}
			}
		}
	}
}

// TestP1502Quick: many calls over 2^40 ticks answer at once.
func TestP1502Quick(t *testing.T) {
	c := example()
	c.Major, c.Switch = 6, 0
	for k := range 20000 {
		if n := plan.Steps(c, 0, k*6, latest-4); n != (latest-4)/6*5-k*5 {
			t.Fatalf("P1502: Steps(0, %d, 2^40 - 4): %d", k*6, n)
		}
	}
}

// TestP1502Behind: the first step at 2^40 or later may itself be later.
func TestP1502Behind(t *testing.T) {
	c := example() // 2^40 is the sixth tick of a frame, behind the window
	if at, ok := plan.Next(c, 0, latest); at != latest-6+11 || !ok {
		t.Errorf("P1502: Next(0, 2^40): %d, %t, want 2^40 + 5, true", at, ok)
	}
	c = base()
	if at, ok := plan.Next(c, 2, latest); at != 0 || ok {
		t.Errorf("P1502: Next of a partition without a window: %d, %t, want 0, false", at, ok)
	}
}

// chance is a configuration by chance.
func chance(r *rand.Rand) api.Config {
	c := api.Config{Pages: 20, Switch: r.Intn(4) * r.Intn(3)}
	for k := range 1 + r.Intn(5) {
		c.Parts = append(c.Parts, api.Part{Name: "p" + strconv.Itoa(k), Pages: 1 + r.Intn(3), Action: r.Intn(2)})
	}
	end := 0
	for range 1 + r.Intn(8) {
		w := api.Window{Start: end + r.Intn(5)*r.Intn(2), Len: c.Switch + 1 + r.Intn(9), Part: r.Intn(len(c.Parts))}
		c.Windows = append(c.Windows, w)
		end = w.Start + w.Len
	}
	c.Major = end + r.Intn(6)*r.Intn(2)
	return c
}

// TestP1502Chance: plans by chance, near ticks and far ones.
func TestP1502Chance(t *testing.T) {
	r := rand.New(rand.NewSource(15))
	for range 3000 {
		c := chance(r)
		if config.Check(c) != api.OK {
			t.Fatalf("%+v can't be", c)
		}
		f := written(c)
		tick := func() int {
			return []int{r.Intn(3 * c.Major), r.Intn(latest + 1), latest - r.Intn(3*c.Major)}[r.Intn(3)]
		}
		all := 0
		for part := range c.Parts {
			holdShare(t, c, f, part)
			all += plan.Share(c, part)
		}
		for range 20 {
			part, from, to := r.Intn(len(c.Parts)+1), tick(), tick()
			holdAt(t, c, f, from)
			holdNext(t, c, f, part, from)
			holdSteps(t, c, f, part, from, to)
		}
		gaps := c.Major
		for _, w := range c.Windows {
			gaps -= w.Len
		}
		if all != c.Major-gaps-len(c.Windows)*c.Switch {
			t.Fatalf("P1502: all shares are %d; Major %d, Switch %d, %v", all, c.Major, c.Switch, c.Windows)
		}
	}
}

// TestP1503Given: what is handed in stays, its spare room too.
func TestP1503Given(t *testing.T) {
	c := base()
	c.Windows = append(c.Windows, api.Window{Start: 36, Len: 4, Part: 1})[:5]
	c.Parts = append(c.Parts, api.Part{Name: "x"})[:4]
	kept := clone(c)
	for at := range 50 {
		plan.At(c, at)
		plan.Runs(c, at)
		plan.Next(c, 1, at)
		plan.Steps(c, 1, 0, at)
		plan.Share(c, at)
	}
	if c.Pages != kept.Pages || c.Major != kept.Major || c.Switch != kept.Switch || !slices.Equal(c.Parts, kept.Parts) || !slices.Equal(c.Channels, kept.Channels) || !slices.Equal(c.Windows, kept.Windows) {
		t.Errorf("P1503: a call changed what was handed in: %+v", c)
	}
	if c.Windows[:6][5] != (api.Window{Start: 36, Len: 4, Part: 1}) || c.Parts[:5][4].Name != "x" {
		t.Error("P1503: a call changed the spare room of what was handed in")
	}
	if part, _ := plan.At(c, 37); part != -1 {
		t.Errorf("P1503: At looks at the spare room: %d", part)
	}
}

// TestP1503Empty: nil and an empty list mean the same.
func TestP1503Empty(t *testing.T) {
	c := example()
	c.Channels = []api.Channel{}
	holdAt(t, c, written(c), 3)
	c.Windows = []api.Window{}
	holdNothing(t, c, 0, 3, "an empty list of windows")
}

// TestP1503SameAgain: many at once tell the same, whatever was asked of another configuration between.
func TestP1503SameAgain(t *testing.T) {
	l := []api.Config{example(), base(), least()}
	frames := []frame{written(l[0]), written(l[1]), written(l[2])}
	var all sync.WaitGroup
	for n := range 8 {
		all.Go(func() {
			for k := range 300 {
				at := 7 * k
				c, f := l[(n+k)%3], frames[(n+k)%3]
				part, steps := plan.Runs(c, at)
				next, ok := plan.Next(c, n%4, at)
				wantNext, wantOk := f.next(n%4, at)
				if want := f.at(at); part != want.part || steps != want.steps || next != wantNext || ok != wantOk || plan.Steps(c, 0, at, latest) != f.steps(0, at, latest) {
					t.Errorf("P1503: at %d it is told otherwise", at)
				}
			}
		})
	}
	all.Wait()
}
