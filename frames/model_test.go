package frames_test

import (
	"slices"

	"trunnion/api"
)

// The model says again what the chapter says: the host's memory is written out frame by frame.

// place is what the chapter says of a frame of the host: who has it, and which of the owner's frames it is.
type place struct{ owner, frame int }

// nowhere is what is told of a frame that there is not.
var nowhere = place{-3, -1}

// memory is the frames of a host, of a configuration that can be.
type memory []place

func written(c api.Config) memory {
	m := slices.Repeat(memory{{-1, -1}}, 4)
	for k, p := range c.Parts {
		for frame := range p.Pages {
			m = append(m, place{k, frame})
		}
	}
	for len(m) < c.Pages {
		m = append(m, place{-2, -1})
	}
	return m
}

// at is what is told of a frame, if it is there or not.
func (m memory) at(host int) place {
	if host < 0 || host >= len(m) {
		return nowhere
	}
	return m[host]
}

// host looks for the frame of the host that a partition's frame is.
func (m memory) host(part, frame int) (int, bool) {
	if part >= 0 && frame >= 0 {
		if k := slices.Index(m, place{part, frame}); k >= 0 {
			return k, true
		}
	}
	return 0, false
}

// first looks for a partition's first frame.
func (m memory) first(part int) int {
	if k, ok := m.host(part, 0); ok {
		return k
	}
	return -1
}

// clone is a configuration that shares nothing with c.
func clone(c api.Config) api.Config {
	c.Parts, c.Channels, c.Windows = slices.Clone(c.Parts), slices.Clone(c.Channels), slices.Clone(c.Windows)
	return c
}
