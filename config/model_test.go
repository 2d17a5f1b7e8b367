package config_test

import (
	"bytes"
	"math/big"
	"slices"
	"strings"

	"trunnion/api"
)

// The model says again what the chapter says: what is wrong by sets of names and sums of big numbers, what is packed by divisions.

// out tells whether n is not from least to most.
func out(n, least, most int) bool {
	return big.NewInt(int64(n)).Cmp(big.NewInt(int64(least))) < 0 || big.NewInt(int64(n)).Cmp(big.NewInt(int64(most))) > 0
}

func partsWrong(c api.Config) bool {
	wrong := len(c.Parts) == 0 || len(c.Parts) > 8
	seen := map[string]int{}
	for _, p := range c.Parts {
		seen[p.Name]++
		wrong = wrong || seen[p.Name] > 1 || p.Action != 0 && p.Action != 1
		wrong = wrong || p.Name == "" || len(p.Name) > 20 || strings.Trim(p.Name, "abcdefghijklmnopqrstuvwxyz0123456789") != ""
		for _, b := range []byte(p.Name) {
			wrong = wrong || !strings.Contains("abcdefghijklmnopqrstuvwxyz0123456789", string([]byte{b}))
		}
	}
	return wrong
}

func memoryWrong(c api.Config) bool {
	sum := new(big.Int)
	wrong := false
	for _, p := range c.Parts {
		wrong = wrong || out(p.Pages, 1, 64)
		sum.Add(sum, big.NewInt(int64(p.Pages)))
	}
	return wrong || sum.Cmp(big.NewInt(int64(c.Pages-4))) > 0
}

func channelsWrong(c api.Config) bool {
	wrong := len(c.Channels) > 16
	for _, h := range c.Channels {
		wrong = wrong || h.Kind != 0 && h.Kind != 1 || out(h.From, 0, len(c.Parts)-1) || out(h.To, 0, len(c.Parts)-1) || h.From == h.To
		wrong = wrong || out(h.Size, 1, 64) || out(h.Depth, 1, 16) || h.Kind == 0 && h.Depth != 1
	}
	return wrong
}

func planWrong(c api.Config) bool {
	wrong := out(c.Major, 1, 100000) || out(c.Switch, 0, 1000) || len(c.Windows) == 0 || len(c.Windows) > 32
	end := new(big.Int)
	for _, w := range c.Windows {
		start, length := big.NewInt(int64(w.Start)), big.NewInt(int64(w.Len))
		wrong = wrong || start.Sign() < 0 || start.Cmp(end) < 0 || length.Cmp(big.NewInt(int64(c.Switch))) <= 0
		end = new(big.Int).Add(start, length)
		wrong = wrong || end.Cmp(big.NewInt(int64(c.Major))) > 0 || out(w.Part, 0, len(c.Parts)-1)
	}
	return wrong
}

// verdict is what the chapter says of Check.
func verdict(c api.Config) api.Errno {
	switch {
	case out(c.Pages, 5, 256):
		return api.ErrMem
	case partsWrong(c):
		return api.ErrPart
	case memoryWrong(c):
		return api.ErrMem
	case channelsWrong(c):
		return api.ErrPort
	case planWrong(c):
		return api.ErrPlan
	}
	return api.OK
}

// four is a number's lowest four bytes, the lowest first, by divisions of a big number.
func four(n int) []byte {
	var b []byte
	rest := big.NewInt(int64(n))
	for range 4 {
		var low big.Int
		rest.DivMod(rest, big.NewInt(256), &low)
		b = append(b, byte(low.Int64()))
	}
	return b
}

// sealed is b with the sum of all its bytes behind it.
func sealed(b []byte) []byte {
	sum := 0
	for _, c := range b {
		sum += int(c)
	}
	return slices.Concat(b, four(sum))
}

// resum is b with the sum of what is ahead as its last four bytes.
func resum(b []byte) []byte { return sealed(b[:len(b)-4]) }

// packed is what the chapter says of Pack, of configurations that can't be, too.
func packed(c api.Config) []byte {
	rows := [][]byte{[]byte("TRC1")}
	put := func(numbers ...int) {
		for _, n := range numbers {
			rows = append(rows, four(n))
		}
	}
	put(c.Pages, c.Major, c.Switch, len(c.Parts))
	for _, p := range c.Parts {
		put(len(p.Name), p.Pages, p.Action)
		rows = append(rows, []byte(p.Name))
	}
	put(len(c.Channels))
	for _, h := range c.Channels {
		put(h.Kind, h.From, h.To, h.Size, h.Depth)
	}
	put(len(c.Windows))
	for _, w := range c.Windows {
		put(w.Start, w.Len, w.Part)
	}
	return sealed(bytes.Join(rows, nil))
}

// cutter reads numbers as long as there are bytes; behind them it tells 0, and that it fell short.
type cutter struct {
	b     []byte
	short bool
}

func (k *cutter) cut(n int) []byte {
	if k.short || n > len(k.b) {
		k.short = true
		return make([]byte, 4)
	}
	first := k.b[:n]
	k.b = k.b[n:]
	return first
}

func (k *cutter) number() int {
	n := 0
	for j, b := range k.cut(4) {
		n += int(b) * []int{1, 256, 65536, 16777216}[j]
	}
	return n
}

// parsed is the configuration of which b tells, if there is one: b is read without a look at what can be, and then held against packed and verdict.
func parsed(b []byte) (api.Config, bool) {
	k := &cutter{b: b}
	k.cut(4)
	c := api.Config{Pages: k.number(), Major: k.number(), Switch: k.number()}
	for n := k.number(); n > 0 && !k.short; n-- {
		length, pages, action := k.number(), k.number(), k.number()
		c.Parts = append(c.Parts, api.Part{Name: string(k.cut(length)), Pages: pages, Action: action})
	}
	for n := k.number(); n > 0 && !k.short; n-- {
		kind, from, to, size, depth := k.number(), k.number(), k.number(), k.number(), k.number()
		c.Channels = append(c.Channels, api.Channel{Kind: kind, From: from, To: to, Size: size, Depth: depth})
	}
	for n := k.number(); n > 0 && !k.short; n-- {
		start, length, part := k.number(), k.number(), k.number()
		c.Windows = append(c.Windows, api.Window{Start: start, Len: length, Part: part})
	}
	if k.short || verdict(c) != api.OK || !bytes.Equal(packed(c), b) {
		return api.Config{}, false
	}
	return c, true
}

// same tells whether two configurations are one; nil and an empty list are.
func same(c, d api.Config) bool {
	return c.Pages == d.Pages && c.Major == d.Major && c.Switch == d.Switch &&
		slices.Equal(c.Parts, d.Parts) && slices.Equal(c.Channels, d.Channels) && slices.Equal(c.Windows, d.Windows)
}

// clone is a configuration that shares nothing with c.
func clone(c api.Config) api.Config {
	c.Parts, c.Channels, c.Windows = slices.Clone(c.Parts), slices.Clone(c.Channels), slices.Clone(c.Windows)
	return c
}
