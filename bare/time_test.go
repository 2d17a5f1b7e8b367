package bare

import (
	"testing"

	"trunnion/api"
)

// TestP1002TimeGoesRound stands within the package: no program lives long enough to see it.
func TestP1002TimeGoesRound(t *testing.T) {
	m := New(1, api.Image{Bytes: []byte{0, 0, 0, 66}}, nil)
	m.state.Csr[api.Time] = 1<<32 - 2
	m.state.Csr[api.Timecmp] = 5
	for _, want := range []struct{ time, pend int }{{1<<32 - 1, 1}, {0, 0}, {1, 0}} {
		m.Step()
		if c := m.State().Csr; c[api.Time] != want.time || c[api.Pend] != want.pend {
			t.Errorf("P1002: Time %d, Pend %d, not %+v", c[api.Time], c[api.Pend], want)
		}
	}
}
