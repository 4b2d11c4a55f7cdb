package chain

import (
	"testing"

	"penstock/api"
)

func TestCountsOfZeroAreDeleted(t *testing.T) {
	c := New()
	first, second := api.Time{Epoch: 2}, api.Time{Epoch: 2, Loops: []uint32{0}}
	for _, x := range []struct {
		l    []api.Change
		held int
	}{
		{nil, 0},
		{[]api.Change{{Time: first}}, 0},
		{[]api.Change{{Time: first, Diff: 1}, {Time: second, Diff: -1}}, 2},
		{[]api.Change{{Time: first, Diff: 1}}, 2},
		{[]api.Change{{Time: first, Diff: -2}}, 1},
		{[]api.Change{{Time: second, Diff: 1}}, 0},
		{[]api.Change{{Time: second, Diff: 1}, {Time: first, Diff: 5}, {Time: second, Diff: -1}}, 1},
		{[]api.Change{{Time: first, Diff: -1 << 62}, {Time: first, Diff: -1 << 62}, {Time: first, Diff: -5}}, 1},
		{[]api.Change{{Time: first, Diff: -1 << 63}}, 0},
	} {
		c.Update(x.l)
		if len(c.held) != x.held {
			t.Errorf("after %v %d counts are held, want %d", x.l, len(c.held), x.held)
		}
	}
}
