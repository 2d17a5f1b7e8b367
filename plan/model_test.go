package plan_test

import (
	"slices"

	"trunnion/api"
)

// The model says again what the chapter says: a frame is written out tick by tick, and steps over many frames are counted of each of its ticks by itself.

// tick is what the chapter says of a frame's tick.
type tick struct {
	part, since int
	steps       bool
}

// frame is the ticks of a major frame, of a configuration that can be.
type frame []tick

func written(c api.Config) frame {
	f := slices.Repeat(frame{{part: -1}}, c.Major)
	for _, w := range c.Windows {
		for k := range w.Len {
			f[w.Start+k] = tick{w.Part, k, k >= c.Switch}
		}
	}
	return f
}

// at is what is told of a tick, however far.
func (f frame) at(t int) tick { return f[t%len(f)] }

// floor is n divided by d, rounded down.
func floor(n, d int) int {
	q := n / d
	if q*d > n {
		q--
	}
	return q
}

// steps counts the ticks of [from, to) that are this tick of any frame, for each tick at which part makes a step.
func (f frame) steps(part, from, to int) int {
	all := 0
	for u, k := range f {
		if k.part == part && k.steps && from < to {
			all += floor(to-1-u, len(f)) - floor(from-1-u, len(f))
		}
	}
	return all
}

// next goes over ticks one by one.
func (f frame) next(part, t int) (int, bool) {
	for k := range 2 * len(f) {
		if x := f.at(t + k); x.part == part && x.steps {
			return t + k, true
		}
	}
	return 0, false
}

// share counts one by one.
func (f frame) share(part int) int {
	all := 0
	for _, k := range f {
		if k.part == part && k.steps {
			all++
		}
	}
	return all
}

// clone is a configuration that shares nothing with c.
func clone(c api.Config) api.Config {
	c.Parts, c.Channels, c.Windows = slices.Clone(c.Parts), slices.Clone(c.Channels), slices.Clone(c.Windows)
	return c
}
