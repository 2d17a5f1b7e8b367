package frames_test

import (
	"math"
	"math/rand"
	"slices"
	"strconv"
	"sync"
	"testing"

	"trunnion/api"
	"trunnion/config"
	"trunnion/frames"
)

// of is a configuration of a host of so many pages, and partitions of so many.
func of(pages int, parts ...int) api.Config {
	c := api.Config{Pages: pages, Major: 10, Windows: []api.Window{{Len: 10}}}
	for k, n := range parts {
		c.Parts = append(c.Parts, api.Part{Name: "p" + strconv.Itoa(k), Pages: n, Action: k % 2})
	}
	return c
}

// example is the chapter's: partitions of 2 and 3 pages. Of the host's pages two are nobody's.
func example() api.Config { return of(11, 2, 3) }

// full is a host without a frame that is nobody's.
func full() api.Config { return of(12, 1, 4, 1, 2) }

// least is the least host.
func least() api.Config { return of(5, 1) }

// greatest is the greatest host, full, with as many partitions as can be.
func greatest() api.Config { return of(256, 64, 1, 64, 64, 1, 1, 56, 1) }

// roomy is the greatest host, most of which is nobody's; it has channels, a switch, and windows out of the partitions' order.
func roomy() api.Config {
	c := of(256, 5, 64, 3)
	c.Switch = 2
	c.Channels = []api.Channel{{Kind: 1, From: 2, To: 0, Size: 5, Depth: 7}, {From: 0, To: 1, Size: 64, Depth: 1}}
	c.Windows = []api.Window{{Start: 0, Len: 3, Part: 2}, {Start: 5, Len: 4, Part: 0}}
	return c
}

func all() []api.Config {
	return []api.Config{example(), full(), least(), greatest(), roomy()}
}

// far are numbers that are no partition and no frame, though the words of some would be.
func far() []int {
	return []int{math.MinInt, math.MinInt + 1, math.MinInt + 4, -1 << 32, -1<<32 + 4, -1 << 31, -256, -4, -3, -2, -1,
		1 << 20, 1 << 31, 1<<32 - 1, 1 << 32, 1<<32 + 1, 1<<32 + 4, 1<<40 + 5, 1 << 62, math.MaxInt - 4, math.MaxInt - 1, math.MaxInt}
}

// numbers are the ints from 0 to n, and far ones.
func numbers(n int) []int {
	l := far()
	for k := range n + 1 {
		l = append(l, k)
	}
	return l
}

// holdHost holds Owner and Guest to the model at a frame of the host.
func holdHost(t *testing.T, c api.Config, m memory, host int) {
	t.Helper()
	want := m.at(host)
	if owner := frames.Owner(c, host); owner != want.owner {
		t.Fatalf("P1601: Owner(%d): %d, want %d; Pages %d, %v", host, owner, want.owner, c.Pages, c.Parts)
	}
	if owner, frame := frames.Guest(c, host); owner != want.owner || frame != want.frame {
		t.Fatalf("P1601: Guest(%d): %d, %d, want %d, %d; Pages %d, %v", host, owner, frame, want.owner, want.frame, c.Pages, c.Parts)
	}
}

// holdFirst holds First to the model.
func holdFirst(t *testing.T, c api.Config, m memory, part int) {
	t.Helper()
	if first := frames.First(c, part); first != m.first(part) {
		t.Fatalf("P1601: First(%d): %d, want %d; Pages %d, %v", part, first, m.first(part), c.Pages, c.Parts)
	}
}

// holdFrame holds Host to the model at a partition's frame.
func holdFrame(t *testing.T, c api.Config, m memory, part, frame int) {
	t.Helper()
	want, is := m.host(part, frame)
	if host, ok := frames.Host(c, part, frame); host != want || ok != is {
		t.Fatalf("P1601: Host(%d, %d): %d, %t, want %d, %t; Pages %d, %v", part, frame, host, ok, want, is, c.Pages, c.Parts)
	}
}

func TestP1601Example(t *testing.T) {
	c := example()
	for part, want := range []int{4, 6, -1} {
		if first := frames.First(c, part); first != want {
			t.Errorf("P1601: First(%d): %d, want %d", part, first, want)
		}
	}
	for host, want := range []place{{-1, -1}, {-1, -1}, {-1, -1}, {-1, -1}, {0, 0}, {0, 1}, {1, 0}, {1, 1}, {1, 2}, {-2, -1}, {-2, -1}, {-3, -1}, {-3, -1}} {
		if owner := frames.Owner(c, host); owner != want.owner {
			t.Errorf("P1601: Owner(%d): %d, want %d", host, owner, want.owner)
		}
		if owner, frame := frames.Guest(c, host); owner != want.owner || frame != want.frame {
			t.Errorf("P1601: Guest(%d): %d, %d, want %d, %d", host, owner, frame, want.owner, want.frame)
		}
	}
	for _, x := range []struct {
		part, frame, host int
		ok                bool
	}{{0, 0, 4, true}, {0, 1, 5, true}, {0, 2, 0, false}, {1, 0, 6, true}, {1, 2, 8, true}, {1, 3, 0, false}, {1, -1, 0, false}, {-1, 0, 0, false}, {2, 0, 0, false}} {
		if host, ok := frames.Host(c, x.part, x.frame); host != x.host || ok != x.ok {
			t.Errorf("P1601: Host(%d, %d): %d, %t, want %d, %t", x.part, x.frame, host, ok, x.host, x.ok)
		}
	}
}

// TestP1601All: every frame and partition of each host, and numbers that are none.
func TestP1601All(t *testing.T) {
	for _, c := range all() {
		if config.Check(c) != api.OK {
			t.Fatalf("%+v can't be", c)
		}
		m := written(c)
		for _, host := range numbers(c.Pages + 300) {
			holdHost(t, c, m, host)
		}
		for _, part := range numbers(len(c.Parts) + 2) {
			holdFirst(t, c, m, part)
			for _, frame := range numbers(260) {
				holdFrame(t, c, m, part, frame)
			}
		}
	}
}

// TestP1601Apart: each frame of a host is one partition's frame, or none's; Host and Guest go both ways.
func TestP1601Apart(t *testing.T) {
	for _, c := range all() {
		had := map[int]int{}
		for part, p := range c.Parts {
			for frame := range p.Pages {
				host, ok := frames.Host(c, part, frame)
				if !ok || host < 4 || host >= c.Pages {
					t.Fatalf("P1601: Host(%d, %d): %d, %t; Pages %d", part, frame, host, ok, c.Pages)
				}
				if owner, again := frames.Guest(c, host); owner != part || again != frame {
					t.Errorf("P1601: Guest(%d): %d, %d, want %d, %d", host, owner, again, part, frame)
				}
				had[host]++
			}
		}
		for host := range c.Pages {
			if owner := frames.Owner(c, host); had[host] > 1 || (owner >= 0) != (had[host] == 1) {
				t.Errorf("P1601: the frame %d is a partition's %d times, its owner is %d", host, had[host], owner)
			}
		}
	}
}

// refused are configurations that can't be, each by another fault.
func refused() map[string]api.Config {
	l := map[string]api.Config{"nothing": {}}
	for name, turn := range map[string]func(c *api.Config){
		"Pages 4":                func(c *api.Config) { c.Pages = 4 },
		"Pages 257":              func(c *api.Config) { c.Pages = 257 },
		"Pages 2^32 + 256":       func(c *api.Config) { c.Pages = 1<<32 + 256 },
		"Pages 0":                func(c *api.Config) { c.Pages = 0 },
		"the least Pages":        func(c *api.Config) { c.Pages = math.MinInt },
		"a page too few":         func(c *api.Config) { c.Pages = 4 + 5 + 64 + 3 - 1 },
		"a partition of 0":       func(c *api.Config) { c.Parts[1].Pages = 0 },
		"a partition of -1":      func(c *api.Config) { c.Parts[0].Pages = -1 },
		"a partition of 65":      func(c *api.Config) { c.Parts[2].Pages = 65 },
		"a partition of all":     func(c *api.Config) { c.Parts[2].Pages = math.MaxInt },
		"no partitions":          func(c *api.Config) { c.Parts, c.Channels = nil, nil },
		"too many partitions":    func(c *api.Config) { *c = of(256, 1, 1, 1, 1, 1, 1, 1, 1, 1) },
		"no name":                func(c *api.Config) { c.Parts[1].Name = "" },
		"a name with a sign":     func(c *api.Config) { c.Parts[2].Name = "P" },
		"a name twice":           func(c *api.Config) { c.Parts[2].Name = "p0" },
		"Action 2":               func(c *api.Config) { c.Parts[0].Action = 2 },
		"too many channels":      func(c *api.Config) { c.Channels = slices.Repeat(c.Channels[:1], 17) },
		"a channel of kind 2":    func(c *api.Config) { c.Channels[0].Kind = 2 },
		"a channel to itself":    func(c *api.Config) { c.Channels[0].To = 2 },
		"a channel to none":      func(c *api.Config) { c.Channels[1].To = 3 },
		"a channel of size 65":   func(c *api.Config) { c.Channels[1].Size = 65 },
		"a channel of depth 2":   func(c *api.Config) { c.Channels[1].Depth = 2 },
		"Major 0":                func(c *api.Config) { c.Major = 0 },
		"Major 100001":           func(c *api.Config) { c.Major = 100001 },
		"Switch -1":              func(c *api.Config) { c.Switch = -1 },
		"Switch 3":               func(c *api.Config) { c.Switch = 3 },
		"no windows":             func(c *api.Config) { c.Windows = nil },
		"windows that overlap":   func(c *api.Config) { c.Windows[1].Start = 2 },
		"a window of none":       func(c *api.Config) { c.Windows[1].Part = 3 },
		"a window behind Major":  func(c *api.Config) { c.Windows[1].Len = 6 },
		"a window ahead of zero": func(c *api.Config) { c.Windows[0].Start = -1 },
	} {
		c := clone(roomy())
		turn(&c)
		l[name] = c
	}
	return l
}

// TestP1601Config: of a configuration that can't be nothing is told, of no partition and no frame.
func TestP1601Config(t *testing.T) {
	for why, c := range refused() {
		if config.Check(c) == api.OK {
			t.Fatalf("%s: it can be", why)
		}
		for _, host := range numbers(260) {
			holdHost(t, c, nil, host)
		}
		for _, part := range numbers(10) {
			holdFirst(t, c, nil, part)
			for _, frame := range numbers(66) {
				holdFrame(t, c, nil, part, frame)
			}
		}
	}
}

// TestP1601Pages: a host of more and more pages turns what is nobody's, and nothing else.
func TestP1601Pages(t *testing.T) {
	for pages := 10; pages <= 256; pages++ {
		c := of(pages, 2, 1, 3)
		m := written(c)
		for host := range 260 {
			holdHost(t, c, m, host)
		}
		for part := range 4 {
			holdFirst(t, c, m, part)
			for frame := range 5 {
				holdFrame(t, c, m, part, frame)
			}
		}
	}
}

// chance is a configuration by chance.
func chance(r *rand.Rand) api.Config {
	left := 1 + r.Intn(252)
	c := of(4 + left)
	for k := range 1 + r.Intn(8) {
		if left == 0 {
			break
		}
		n := 1 + r.Intn(min(left, 64, 1+r.Intn(64)))
		if r.Intn(8) == 0 {
			n = min(left, 64)
		}
		c.Parts = append(c.Parts, api.Part{Name: "p" + strconv.Itoa(k), Pages: n, Action: r.Intn(2)})
		left -= n
	}
	return c
}

// TestP1601Chance: hosts by chance, whole.
func TestP1601Chance(t *testing.T) {
	r := rand.New(rand.NewSource(16))
	for range 300 {
		c := chance(r)
		if config.Check(c) != api.OK {
			t.Fatalf("%+v can't be", c)
		}
		m := written(c)
		for _, host := range numbers(c.Pages + 2) {
			holdHost(t, c, m, host)
		}
		for part := range len(c.Parts) + 2 {
			holdFirst(t, c, m, part)
			for frame := range 66 {
				holdFrame(t, c, m, part, frame)
			}
		}
	}
}

// TestP1602Alone: the plan, the channels, names and actions turn nothing of it.
func TestP1602Alone(t *testing.T) {
	c := roomy()
	m := written(c)
	c.Major, c.Switch, c.Channels = 77, 0, nil
	c.Windows = []api.Window{{Start: 60, Len: 17, Part: 1}}
	for k := range c.Parts {
		c.Parts[k].Name, c.Parts[k].Action = "other"+strconv.Itoa(9-k), 1-c.Parts[k].Action
	}
	for host := range c.Pages + 2 {
		holdHost(t, c, m, host)
	}
	for part := range 4 {
		holdFirst(t, c, m, part)
	}
}

// TestP1602Given: what is handed in stays, its spare room too, and the spare room is not looked at.
func TestP1602Given(t *testing.T) {
	c := roomy()
	c.Parts = append(c.Parts, api.Part{Name: "x", Pages: 9})[:3]
	kept := clone(c)
	for k := range 260 {
		frames.First(c, k)
		frames.Host(c, k%4, k)
		frames.Guest(c, k)
		frames.Owner(c, k)
	}
	if c.Pages != kept.Pages || c.Major != kept.Major || c.Switch != kept.Switch || !slices.Equal(c.Parts, kept.Parts) || !slices.Equal(c.Channels, kept.Channels) || !slices.Equal(c.Windows, kept.Windows) {
		t.Errorf("P1602: a call changed what was handed in: %+v", c)
	}
	if c.Parts[:4][3] != (api.Part{Name: "x", Pages: 9}) {
		t.Error("P1602: a call changed the spare room of what was handed in")
	}
	if first, owner := frames.First(c, 3), frames.Owner(c, 76); first != -1 || owner != -2 {
		t.Errorf("P1602: the spare room is looked at: First(3) %d, Owner(76) %d", first, owner)
	}
}

// TestP1602Empty: nil and an empty list mean the same.
func TestP1602Empty(t *testing.T) {
	c := example()
	c.Channels = []api.Channel{}
	m := written(c)
	for host := range 12 {
		holdHost(t, c, m, host)
	}
	c.Parts = []api.Part{}
	holdHost(t, c, nil, 4)
	holdFirst(t, c, nil, 0)
	holdFrame(t, c, nil, 0, 0)
}

// TestP1602SameAgain: many at once tell the same, whatever was asked of another configuration between.
func TestP1602SameAgain(t *testing.T) {
	l := all()
	var models []memory
	for _, c := range l {
		models = append(models, written(c))
	}
	var workers sync.WaitGroup
	for n := range 8 {
		workers.Go(func() {
			for k := range 1000 {
				c, m := l[(n+k)%len(l)], models[(n+k)%len(l)]
				part, frame, host := k%5, k%7, k%260
				owner, guest := frames.Guest(c, host)
				found, ok := frames.Host(c, part, frame)
				want, is := m.host(part, frame)
				if (place{owner, guest}) != m.at(host) || frames.Owner(c, host) != owner || found != want || ok != is || frames.First(c, part) != m.first(part) {
					t.Errorf("P1602: of %d pages, frame %d, partition %d it is told otherwise", c.Pages, host, part)
				}
			}
		})
	}
	workers.Wait()
}
