package config_test

import (
	"bytes"
	"math"
	"math/rand"
	"slices"
	"strconv"
	"strings"
	"sync"
	"testing"

	"trunnion/api"
	"trunnion/config"
)

// least is the chapter's example.
func least() api.Config {
	return api.Config{Pages: 5, Major: 1, Parts: []api.Part{{Name: "a", Pages: 1}}, Windows: []api.Window{{Len: 1}}}
}

// base is a configuration that can be, with something of each kind.
func base() api.Config {
	return api.Config{
		Pages: 12, Major: 1000, Switch: 3,
		Parts:    []api.Part{{Name: "a", Pages: 1}, {Name: "b2", Pages: 3, Action: 1}, {Name: "zz9", Pages: 2}},
		Channels: []api.Channel{{Kind: 0, From: 0, To: 1, Size: 64, Depth: 1}, {Kind: 1, From: 2, To: 0, Size: 5, Depth: 7}},
		Windows:  []api.Window{{Start: 2, Len: 10, Part: 0}, {Start: 12, Len: 100, Part: 1}, {Start: 400, Len: 300, Part: 2}},
	}
}

// greatest is one at every limit.
func greatest() api.Config {
	c := api.Config{Pages: api.MaxPages, Major: api.MaxFrame, Switch: 1000}
	for k := range api.MaxParts {
		c.Parts = append(c.Parts, api.Part{Name: strings.Repeat("z", 19) + strconv.Itoa(k), Pages: []int{64, 64, 64, 56, 1, 1, 1, 1}[k], Action: 1})
	}
	for k := range api.MaxPorts {
		c.Channels = append(c.Channels, api.Channel{Kind: 1, From: k % 8, To: 7 - k%8, Size: api.MaxMsg, Depth: api.MaxQueue})
	}
	for k := range api.MaxWin {
		c.Windows = append(c.Windows, api.Window{Start: 3125 * k, Len: 3125, Part: k % 8})
	}
	return c
}

// asks holds Check to an error.
func asks(t *testing.T, c api.Config, want api.Errno, why string) {
	t.Helper()
	if got := config.Check(c); got != want {
		t.Errorf("P1401: Check, %s: %d, want %d", why, got, want)
	}
	if want != verdict(c) {
		t.Errorf("the model, %s: %d, want %d", why, verdict(c), want)
	}
	b, err := config.Pack(c)
	if err != want {
		t.Errorf("P1402: Pack, %s: error %d, want %d", why, err, want)
	}
	if want != api.OK && len(b) != 0 {
		t.Errorf("P1402: Pack, %s: %d bytes beside error %d", why, len(b), err)
	}
	if want == api.OK {
		if !bytes.Equal(b, packed(c)) {
			t.Errorf("P1402: Pack, %s: % X, want % X", why, b, packed(c))
		}
		taken(t, b, c)
	}
}

// taken holds Unpack to a configuration.
func taken(t *testing.T, b []byte, want api.Config) {
	t.Helper()
	if c, err := config.Unpack(b); err != api.OK || !same(c, want) {
		t.Errorf("P1402: Unpack of % X: %+v, error %d, want %+v", b, c, err, want)
	}
}

// refused holds Unpack to ErrByte and nothing beside it.
func refused(t *testing.T, b []byte, why string) {
	t.Helper()
	if c, err := config.Unpack(b); err != api.ErrByte || !same(c, api.Config{}) {
		t.Errorf("P1402: Unpack of %s: %d partitions, error %d, want ErrByte alone", why, len(c.Parts), err)
	}
}

func TestP1401Example(t *testing.T) {
	asks(t, least(), api.OK, "the example")
	c := least()
	c.Pages = 4
	asks(t, c, api.ErrMem, "the example with Pages 4")
	c.Pages = 6
	asks(t, c, api.OK, "the example with Pages 6")
	asks(t, base(), api.OK, "some of each")
	asks(t, greatest(), api.OK, "the greatest")
	asks(t, api.Config{}, api.ErrMem, "nothing")
	asks(t, api.Config{Pages: 5}, api.ErrPart, "Pages alone")
}

// number is a number of a configuration, and from where to where it may be if all else is as in base.
type number struct {
	name        string
	of          func(c *api.Config) *int
	least, most int
	err         api.Errno
}

// numbers are all the numbers of base.
func numbers() []number {
	return []number{
		{"Pages", func(c *api.Config) *int { return &c.Pages }, 10, 256, api.ErrMem},
		{"Action 0", func(c *api.Config) *int { return &c.Parts[0].Action }, 0, 1, api.ErrPart},
		{"Action 1", func(c *api.Config) *int { return &c.Parts[1].Action }, 0, 1, api.ErrPart},
		{"Action 2", func(c *api.Config) *int { return &c.Parts[2].Action }, 0, 1, api.ErrPart},
		{"Pages of 0", func(c *api.Config) *int { return &c.Parts[0].Pages }, 1, 3, api.ErrMem},
		{"Pages of 1", func(c *api.Config) *int { return &c.Parts[1].Pages }, 1, 5, api.ErrMem},
		{"Pages of 2", func(c *api.Config) *int { return &c.Parts[2].Pages }, 1, 4, api.ErrMem},
		{"Kind 0", func(c *api.Config) *int { return &c.Channels[0].Kind }, 0, 1, api.ErrPort},
		{"Kind 1", func(c *api.Config) *int { return &c.Channels[1].Kind }, 1, 1, api.ErrPort},
		{"From 1", func(c *api.Config) *int { return &c.Channels[1].From }, 1, 2, api.ErrPort},
		{"To 0", func(c *api.Config) *int { return &c.Channels[0].To }, 1, 2, api.ErrPort},
		{"To 1", func(c *api.Config) *int { return &c.Channels[1].To }, 0, 1, api.ErrPort},
		{"Size 0", func(c *api.Config) *int { return &c.Channels[0].Size }, 1, 64, api.ErrPort},
		{"Size 1", func(c *api.Config) *int { return &c.Channels[1].Size }, 1, 64, api.ErrPort},
		{"Depth 0", func(c *api.Config) *int { return &c.Channels[0].Depth }, 1, 1, api.ErrPort},
		{"Depth 1", func(c *api.Config) *int { return &c.Channels[1].Depth }, 1, 16, api.ErrPort},
		{"Major", func(c *api.Config) *int { return &c.Major }, 700, 100000, api.ErrPlan},
		{"Switch", func(c *api.Config) *int { return &c.Switch }, 0, 9, api.ErrPlan},
		{"Start 0", func(c *api.Config) *int { return &c.Windows[0].Start }, 0, 2, api.ErrPlan},
		{"Start 1", func(c *api.Config) *int { return &c.Windows[1].Start }, 12, 300, api.ErrPlan},
		{"Start 2", func(c *api.Config) *int { return &c.Windows[2].Start }, 112, 700, api.ErrPlan},
		{"Len 0", func(c *api.Config) *int { return &c.Windows[0].Len }, 4, 10, api.ErrPlan},
		{"Len 1", func(c *api.Config) *int { return &c.Windows[1].Len }, 4, 388, api.ErrPlan},
		{"Len 2", func(c *api.Config) *int { return &c.Windows[2].Len }, 4, 600, api.ErrPlan},
		{"Part 0", func(c *api.Config) *int { return &c.Windows[0].Part }, 0, 2, api.ErrPlan},
		{"Part 2", func(c *api.Config) *int { return &c.Windows[2].Part }, 0, 2, api.ErrPlan},
	}
}

// far are numbers beyond all limits, whose words or sums may be within them.
func far() []int {
	return []int{math.MinInt, math.MinInt + 1, -1 << 32, -1<<32 + 1, -1 << 31, -1000, -2, -1, 1 << 20, 1 << 31, 1<<32 - 1,
		1 << 32, 1<<32 + 1, 1<<32 + 2, 1<<32 + 12, 1<<32 + 700, 1 << 62, math.MaxInt - 400, math.MaxInt - 10, math.MaxInt - 1, math.MaxInt}
}

// TestP1401Numbers: each number is taken from its least to its greatest, and not beyond.
func TestP1401Numbers(t *testing.T) {
	for _, x := range numbers() {
		for _, n := range append(far(), x.least-1, x.least, x.least+1, x.most-1, x.most, x.most+1) {
			c := base()
			*x.of(&c) = n
			want := api.OK
			if n < x.least || n > x.most {
				want = x.err
			}
			asks(t, c, want, x.name+" "+strconv.Itoa(n))
		}
	}
}

// TestP1401Limits: the limits that base does not come near to.
func TestP1401Limits(t *testing.T) {
	for _, x := range []struct {
		why  string
		turn func(c *api.Config)
		want api.Errno
	}{
		{"64 pages", func(c *api.Config) { c.Pages, c.Parts[0].Pages = 80, 64 }, api.OK},
		{"65 pages", func(c *api.Config) { c.Pages, c.Parts[0].Pages = 80, 65 }, api.ErrMem},
		{"a Switch of 1000", func(c *api.Config) { c.Switch, c.Major, c.Windows = 1000, 1001, []api.Window{{Len: 1001}} }, api.OK},
		{"a Switch of 1001", func(c *api.Config) { c.Switch, c.Major, c.Windows = 1001, 1002, []api.Window{{Len: 1002}} }, api.ErrPlan},
		{"a Major of 0", func(c *api.Config) { c.Switch, c.Major, c.Windows = 0, 0, []api.Window{{Len: 1}} }, api.ErrPlan},
		{"a Major of 0, and no Len", func(c *api.Config) { c.Switch, c.Major, c.Windows = 0, 0, []api.Window{{}} }, api.ErrPlan},
		{"a Switch below 0 below a Len of 0", func(c *api.Config) { c.Switch, c.Windows = -1, []api.Window{{}} }, api.ErrPlan},
		{"no Switch, no Len", func(c *api.Config) { c.Switch, c.Windows = 0, []api.Window{{}} }, api.ErrPlan},
		{"a window of the whole frame", func(c *api.Config) { c.Windows = []api.Window{{Len: 1000}} }, api.OK},
		{"a window that ends behind the frame", func(c *api.Config) { c.Windows = []api.Window{{Start: 1, Len: 1000}} }, api.ErrPlan},
		{"a window that begins at the frame's end", func(c *api.Config) { c.Windows = []api.Window{{Start: 1000, Len: 4}} }, api.ErrPlan},
		{"windows of one partition alone", func(c *api.Config) { c.Windows[0].Part, c.Windows[1].Part = 2, 2 }, api.OK},
		{"windows out of order", func(c *api.Config) { slices.Reverse(c.Windows) }, api.ErrPlan},
		{"a window twice", func(c *api.Config) { c.Windows[1] = c.Windows[0] }, api.ErrPlan},
		{"a channel twice", func(c *api.Config) { c.Channels[1] = c.Channels[0] }, api.OK},
		{"kind 0 of depth 2", func(c *api.Config) { c.Channels[0].Depth = 2 }, api.ErrPort},
		{"kind 0 of depth 16", func(c *api.Config) { c.Channels[0].Depth = 16 }, api.ErrPort},
		{"kind 1 of depth 16", func(c *api.Config) { c.Channels[0].Kind, c.Channels[0].Depth = 1, 16 }, api.OK},
		{"kind 2 of depth 1", func(c *api.Config) { c.Channels[0].Kind = 2 }, api.ErrPort},
		{"a channel of one partition", func(c *api.Config) { c.Channels[1].From, c.Channels[1].To = 2, 2 }, api.ErrPort},
		{"a channel of partition 0 alone", func(c *api.Config) { c.Channels[0].To = 0 }, api.ErrPort},
		{"a channel of none", func(c *api.Config) { c.Channels[1] = api.Channel{} }, api.ErrPort},
		{"a From below 0", func(c *api.Config) { c.Channels[0].From = -1 }, api.ErrPort},
		{"a From that is none", func(c *api.Config) { c.Channels[0].From = 3 }, api.ErrPort},
		{"pages that sum to 2^32 above", func(c *api.Config) { c.Parts[0].Pages = 1<<32 + 1 }, api.ErrMem},
		{"pages that sum to less", func(c *api.Config) { c.Parts[0].Pages, c.Parts[1].Pages = 64, -60 }, api.ErrMem},
	} {
		c := base()
		x.turn(&c)
		asks(t, c, x.want, x.why)
	}
}

// TestP1401Names: the bytes and the length of a name, and that it stands once.
func TestP1401Names(t *testing.T) {
	ok := []string{"0", "9", "z", "a0", "00", "9z", "az09", strings.Repeat("q", 19), strings.Repeat("0", 20), "aa", "b", "b22"}
	wrong := []string{"", strings.Repeat("q", 21), strings.Repeat("q", 256), strings.Repeat("a", 1<<20), "A", "aB", "a b", " a", "a ", "a-b", "_", "a.b",
		"é", "aé", "\xff", "a\x00", "\x00", "a\n", "٣", "ａ", "b2", "zz9", "/", ":", "`", "{"}
	for at := range 3 {
		for _, name := range append(slices.Clone(ok), wrong...) {
			c := base()
			c.Parts[at].Name = name
			want := api.OK
			if slices.Contains(wrong, name) && name != base().Parts[at].Name {
				want = api.ErrPart
			}
			asks(t, c, want, "name "+strconv.Quote(name[:min(len(name), 30)]))
		}
		for b := range 256 {
			for _, name := range []string{string([]byte{byte(b)}), "x" + string([]byte{byte(b)}), string([]byte{byte(b)}) + "x", "x" + string([]byte{byte(b)}) + "x"} {
				c := base()
				c.Parts[at].Name = name
				want := api.ErrPart
				if b >= 'a' && b <= 'z' || b >= '0' && b <= '9' {
					want = api.OK
				}
				if name == "a" && at != 0 {
					want = api.ErrPart
				}
				asks(t, c, want, "name "+strconv.Quote(name))
			}
		}
	}
}

// TestP1401Counts: how many partitions, channels and windows there may be.
func TestP1401Counts(t *testing.T) {
	for n := range 12 {
		c := base()
		c.Pages, c.Channels, c.Windows, c.Parts = 256, nil, []api.Window{{Len: 4}}, nil
		for k := range n {
			c.Parts = append(c.Parts, api.Part{Name: "p" + strconv.Itoa(k), Pages: 1})
		}
		want := api.OK
		if n == 0 || n > 8 {
			want = api.ErrPart
		}
		asks(t, c, want, strconv.Itoa(n)+" partitions")
	}
	for n := range 40 {
		c := base()
		c.Channels = slices.Repeat([]api.Channel{{Kind: 1, From: 0, To: 1, Size: 1, Depth: 1}}, n)
		want := api.OK
		if n > 16 {
			want = api.ErrPort
		}
		asks(t, c, want, strconv.Itoa(n)+" channels")
		c = base()
		c.Windows = nil
		for k := range n {
			c.Windows = append(c.Windows, api.Window{Start: 4 * k, Len: 4})
		}
		want = api.OK
		if n == 0 || n > 32 {
			want = api.ErrPlan
		}
		asks(t, c, want, strconv.Itoa(n)+" windows")
	}
}

// fault is one way in which a configuration can't be.
type fault struct {
	err  api.Errno
	turn func(c *api.Config)
}

// faults stand in the order in which Check looks for them.
func faults() [][]fault {
	return [][]fault{
		{{api.ErrMem, func(c *api.Config) { c.Pages = 4 }}, {api.ErrMem, func(c *api.Config) { c.Pages = 257 }}},
		{{api.ErrPart, func(c *api.Config) { c.Parts[2].Name = "a" }}, {api.ErrPart, func(c *api.Config) { c.Parts[2].Action = 2 }},
			{api.ErrPart, func(c *api.Config) { c.Parts = slices.Repeat(c.Parts, 3) }}},
		{{api.ErrMem, func(c *api.Config) { c.Parts[0].Pages = 0 }}, {api.ErrMem, func(c *api.Config) { c.Parts[1].Pages = 6 }}},
		{{api.ErrPort, func(c *api.Config) { c.Channels[1].Size = 0 }}, {api.ErrPort, func(c *api.Config) { c.Channels[0].Depth = 3 }},
			{api.ErrPort, func(c *api.Config) { c.Channels = slices.Repeat(c.Channels, 9) }}},
		{{api.ErrPlan, func(c *api.Config) { c.Major = 0 }}, {api.ErrPlan, func(c *api.Config) { c.Switch = -1 }},
			{api.ErrPlan, func(c *api.Config) { c.Windows[0].Part = 3 }}, {api.ErrPlan, func(c *api.Config) { c.Windows = nil }}},
	}
}

// TestP1401Order: of two faults the one that the chapter names first is told.
func TestP1401Order(t *testing.T) {
	all := faults()
	for i := range all {
		for j := i + 1; j < len(all); j++ {
			for _, first := range all[i] {
				for _, second := range all[j] {
					c := base()
					second.turn(&c)
					first.turn(&c)
					asks(t, c, first.err, "two faults, the first of them of group "+strconv.Itoa(i))
				}
			}
		}
	}
	c := base()
	c.Parts = nil
	asks(t, c, api.ErrPart, "no partitions, of which channels and windows are")
}

// chance is a configuration by chance, most of whose numbers can be.
func chance(r *rand.Rand) api.Config {
	edge := func(numbers ...int) int {
		if r.Intn(150) == 0 {
			return far()[r.Intn(len(far()))]
		}
		return numbers[r.Intn(len(numbers))]
	}
	c := api.Config{Pages: edge(20, 100, 256, 5+r.Intn(252)), Major: edge(300, 1000, 100000), Switch: edge(0, 1, 5)}
	for k := range 1 + r.Intn(8) {
		c.Parts = append(c.Parts, api.Part{Name: "p" + strconv.Itoa(k-r.Intn(20)/19), Pages: edge(1, 2, 5, 1+r.Intn(64)), Action: edge(0, 1)})
	}
	for range r.Intn(17) * r.Intn(2) {
		h := api.Channel{Kind: r.Intn(2), From: r.Intn(len(c.Parts)), Size: edge(1, 64, 1+r.Intn(64)), Depth: 1}
		h.To = (h.From + 1 + r.Intn(max(1, len(c.Parts)-1))) % len(c.Parts)
		if h.Kind == 1 || r.Intn(50) == 0 {
			h.Depth = edge(1, 16, 1+r.Intn(16))
		}
		c.Channels = append(c.Channels, h)
	}
	end := 0
	for range 1 + r.Intn(10) {
		w := api.Window{Start: edge(end, end+r.Intn(20)) - r.Intn(40)/39, Len: edge(6, 6+r.Intn(30)), Part: edge(r.Intn(len(c.Parts)))}
		c.Windows = append(c.Windows, w)
		end = w.Start + w.Len
	}
	return c
}

// TestP1401Chance: configurations by chance hold Check to the model, and Pack and Unpack, too.
func TestP1401Chance(t *testing.T) {
	r := rand.New(rand.NewSource(14))
	seen := map[api.Errno]int{}
	for range 20000 {
		c := chance(r)
		want := verdict(c)
		seen[want]++
		asks(t, c, want, "by chance")
		if t.Failed() {
			t.Fatalf("%+v", c)
		}
	}
	for _, e := range []api.Errno{api.OK, api.ErrMem, api.ErrPart, api.ErrPort, api.ErrPlan} {
		if seen[e] < 200 {
			t.Errorf("by chance error %d was seen but %d times", e, seen[e])
		}
	}
}

// TestP1402Bytes: the bytes, written out.
func TestP1402Bytes(t *testing.T) {
	c := api.Config{
		Pages: 0x100, Major: 0x186A0, Switch: 0x102,
		Parts:    []api.Part{{Name: "ab", Pages: 3, Action: 1}, {Name: "c", Pages: 0x40}},
		Channels: []api.Channel{{Kind: 1, From: 0, To: 1, Size: 6, Depth: 7}},
		Windows:  []api.Window{{Start: 0x201, Len: 0x10000, Part: 1}},
	}
	want := []byte{'T', 'R', 'C', '1', 0, 1, 0, 0, 0xA0, 0x86, 1, 0, 2, 1, 0, 0,
		2, 0, 0, 0, 2, 0, 0, 0, 3, 0, 0, 0, 1, 0, 0, 0, 'a', 'b', 1, 0, 0, 0, 0x40, 0, 0, 0, 0, 0, 0, 0, 'c',
		1, 0, 0, 0, 1, 0, 0, 0, 0, 0, 0, 0, 1, 0, 0, 0, 6, 0, 0, 0, 7, 0, 0, 0,
		1, 0, 0, 0, 1, 2, 0, 0, 0, 0, 1, 0, 1, 0, 0, 0, 0xCA, 3, 0, 0}
	b, err := config.Pack(c)
	if err != api.OK || !bytes.Equal(b, want) {
		t.Errorf("P1402: Pack: % X, error %d, want % X", b, err, want)
	}
	taken(t, want, c)
	asks(t, c, api.OK, "the written out")
	b, _ = config.Pack(least())
	want = []byte{'T', 'R', 'C', '1', 5, 0, 0, 0, 1, 0, 0, 0, 0, 0, 0, 0, 1, 0, 0, 0, 1, 0, 0, 0, 1, 0, 0, 0, 0, 0, 0, 0, 'a',
		0, 0, 0, 0, 1, 0, 0, 0, 0, 0, 0, 0, 1, 0, 0, 0, 0, 0, 0, 0, 0x86, 1, 0, 0}
	if !bytes.Equal(b, want) {
		t.Errorf("P1402: Pack of the example: % X, want % X", b, want)
	}
}

// TestP1402Short: of packed bytes none can be missing, and none more stand behind.
func TestP1402Short(t *testing.T) {
	refused(t, nil, "nothing")
	refused(t, []byte{}, "nothing")
	refused(t, []byte("TRC1"), "the mark")
	refused(t, sealed([]byte("TRC1")), "the mark and its sum")
	for _, c := range []api.Config{least(), base(), greatest()} {
		b := packed(c)
		for n := range b {
			refused(t, b[:n], "bytes cut at their end")
			refused(t, b[n+1:], "bytes cut at their front")
			if n != len(b)-4 {
				refused(t, sealed(b[:n]), "bytes cut at their end, with their sum")
			}
			if n < len(b)-4 {
				refused(t, resum(slices.Delete(slices.Clone(b), n, n+1)), "bytes of which one is missing, with their sum")
				refused(t, resum(slices.Insert(slices.Clone(b), n, 'a')), "bytes with one more, with their sum")
			}
		}
		for n := 1; n <= 64; n++ {
			longer := append(slices.Clone(b), make([]byte, n)...)
			refused(t, longer, "bytes with more behind")
			refused(t, resum(longer), "bytes with more behind, and their sum")
		}
	}
}

// TestP1402Changed: one byte changed is told by the sum; with a right sum it is another configuration, or none.
func TestP1402Changed(t *testing.T) {
	for _, c := range []api.Config{least(), base()} {
		b := packed(c)
		others := 0
		for k := range b {
			for d := 1; d < 256; d++ {
				x := slices.Clone(b)
				x[k] += byte(d)
				refused(t, x, "bytes of which one is changed")
				if k >= len(b)-4 {
					continue
				}
				x = resum(x)
				other, ok := parsed(x)
				if !ok {
					refused(t, x, "bytes of which one is changed, with their sum")
					continue
				}
				others++
				taken(t, x, other)
			}
		}
		if others < 100 {
			t.Errorf("P1402: but %d other configurations were seen", others)
		}
	}
}

// TestP1402Mark: nothing else than the mark stands ahead.
func TestP1402Mark(t *testing.T) {
	b := packed(base())
	for _, mark := range []string{"TRU1", "trc1", "TRC2", "TRC0", "TR1C", "\x00\x00\x00\x00", " TRC"} {
		refused(t, resum(append([]byte(mark), b[4:]...)), "bytes that begin with "+mark)
	}
}

// TestP1402None: no bytes are those of a configuration that Pack refuses.
func TestP1402None(t *testing.T) {
	for _, group := range faults() {
		for _, f := range group {
			c := base()
			f.turn(&c)
			refused(t, packed(c), "a configuration that can't be")
		}
	}
	for _, x := range numbers() {
		for _, n := range append(far(), x.least-1, x.most+1) {
			c := base()
			*x.of(&c) = n
			// A number beyond a word leaves a word that may be another configuration's.
			if n >= 0 && n < 1<<32 {
				refused(t, packed(c), x.name+" "+strconv.Itoa(n))
			}
		}
	}
	for _, name := range []string{"", "A", "a", "\xff", strings.Repeat("b", 21), strings.Repeat("b", 5000)} {
		c := base()
		c.Parts[1].Name = name
		refused(t, packed(c), "a name that can't be")
	}
	for _, c := range []api.Config{{}, {Pages: 5}, {Pages: 5, Major: 1, Parts: []api.Part{{Name: "a", Pages: 1}}}} {
		refused(t, packed(c), "a configuration with less than there must be")
	}
}

// TestP1402Count: a count far above what there is, or may be, is refused at once.
func TestP1402Count(t *testing.T) {
	b := packed(base())
	parts := 16
	channels := parts + 4 + 3*12 + len("ab2zz9")
	windows := channels + 4 + 2*20
	for _, at := range []int{parts, parts + 4, channels, windows} {
		for _, n := range []int{0, 9, 17, 21, 33, 200, 1 << 16, 1 << 24, 1<<31 - 1, 1 << 31, 1<<32 - 1} {
			x := slices.Clone(b)
			copy(x[at:], four(n))
			refused(t, resum(x), "a count of "+strconv.Itoa(n))
			refused(t, resum(append(x, make([]byte, 1<<16)...)), "a count of "+strconv.Itoa(n)+" and much behind")
		}
	}
	refused(t, make([]byte, 1<<24), "many zeros")
	refused(t, bytes.Repeat([]byte("TRC1"), 1<<20), "many marks")
}

// TestP1402Chance: bytes by chance hold Unpack to the model.
func TestP1402Chance(t *testing.T) {
	r := rand.New(rand.NewSource(1402))
	for range 20000 {
		b := packed(chance(r))
		for range r.Intn(4) {
			b[r.Intn(len(b))] = byte([]int{0, 1, 2, 5, 'a', 'z', 255, r.Intn(256)}[r.Intn(8)])
		}
		if r.Intn(4) > 0 {
			b = resum(b)
		}
		want, ok := parsed(b)
		if ok {
			taken(t, b, want)
		} else {
			refused(t, b, "bytes by chance")
		}
		if t.Failed() {
			t.Fatalf("% X", b)
		}
	}
	for range 20000 {
		b := make([]byte, r.Intn(200))
		r.Read(b)
		copy(b, "TRC1")
		refused(t, b, "bytes by chance")
	}
}

// roomy is c in lists with spare room, and a look at whether all of it is as it was.
func roomy(c api.Config) (api.Config, func() bool) {
	parts := append(slices.Clone(c.Parts), api.Part{Name: "spare", Pages: 9, Action: 9})
	channels := append(slices.Clone(c.Channels), api.Channel{Kind: 9, From: 9, To: 9, Size: 9, Depth: 9})
	windows := append(slices.Clone(c.Windows), api.Window{Start: 9, Len: 9, Part: 9})
	p, h, w := slices.Clone(parts), slices.Clone(channels), slices.Clone(windows)
	c.Parts, c.Channels, c.Windows = parts[:len(parts)-1], channels[:len(channels)-1], windows[:len(windows)-1]
	return c, func() bool {
		return slices.Equal(parts, p) && slices.Equal(channels, h) && slices.Equal(windows, w)
	}
}

// TestP1403Pack: an answer shares nothing with another one; what is handed in stays, its spare room too, and is not kept.
func TestP1403Pack(t *testing.T) {
	c, stays := roomy(base())
	a, _ := config.Pack(c)
	b, _ := config.Pack(c)
	want := packed(base())
	config.Check(c)
	if !stays() {
		t.Error("P1403: Pack or Check changed what was handed in, or its spare room")
	}
	clear(b[:cap(b)])
	c.Parts[0].Name, c.Channels[0].Size, c.Windows[0].Start = "turned", 1, 0
	if !bytes.Equal(a, want) {
		t.Error("P1403: Pack's answer shares bytes")
	}
	clear(a[:cap(a)])
	if d, _ := config.Pack(base()); !bytes.Equal(d, want) {
		t.Error("P1403: Pack keeps something")
	}
}

func TestP1403Unpack(t *testing.T) {
	room := append(packed(base()), 0xEE, 0xEE, 0xEE)
	kept := slices.Clone(room)
	given := room[:len(room)-3]
	a, _ := config.Unpack(given)
	b, _ := config.Unpack(given)
	clear(b.Parts[:cap(b.Parts)])
	clear(b.Channels[:cap(b.Channels)])
	clear(b.Windows[:cap(b.Windows)])
	if !bytes.Equal(room, kept) || !same(a, base()) {
		t.Error("P1403: Unpack's answer shares with what was handed in, or with another answer")
	}
	clear(room)
	if !same(a, base()) {
		t.Error("P1403: Unpack keeps what was handed in")
	}
	config.Unpack(kept[:30])
	if !bytes.Equal(kept[:len(kept)-3], packed(base())) || kept[len(kept)-1] != 0xEE {
		t.Error("P1403: a refused Unpack changed what was handed in")
	}
}

// TestP1403Empty: nil and an empty list mean the same.
func TestP1403Empty(t *testing.T) {
	c := least()
	c.Channels = []api.Channel{}
	asks(t, c, api.OK, "an empty list of channels")
	for _, c := range []api.Config{{Pages: 5, Parts: []api.Part{}}, {Pages: 5, Major: 1, Parts: least().Parts, Windows: []api.Window{}}} {
		d := clone(c)
		if len(d.Parts) == 0 {
			d.Parts = nil
		}
		d.Windows = nil
		asks(t, c, verdict(d), "empty lists")
		asks(t, d, verdict(c), "nil")
	}
}

// TestP1403SameAgain: many at once tell the same.
func TestP1403SameAgain(t *testing.T) {
	c := greatest()
	want := packed(c)
	var all sync.WaitGroup
	for range 8 {
		all.Go(func() {
			for range 100 {
				b, err := config.Pack(c)
				if err != api.OK || !bytes.Equal(b, want) {
					t.Errorf("P1403: Pack tells otherwise: error %d", err)
				}
				taken(t, want, c)
				refused(t, want[1:], "bytes cut at their front")
			}
		})
	}
	all.Wait()
}
