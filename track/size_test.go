package track_test

import (
	"slices"
	"testing"

	"penstock/api"
)

// ring is so many nodes, one behind the other, at the depth 1, the last one leading back to the first one.
func ring(n int, p api.Path) api.Graph {
	g := graph(slices.Repeat([]api.Node{one(1, p)}, n))
	for i := range n {
		g.Edges = append(g.Edges, edge(out(i, 0), in((i+1)%n, 0)))
	}
	return g
}

// Of all the pairs of a place and an input only those are looked at that are needed: there are too many.
func TestGreatestRing(t *testing.T) {
	k := tracker(t, ring(api.MaxNodes, path(0, 1)))
	var want []api.Time
	for i := range 20 {
		update(t, k, moved(out(200*i, 0), at(uint64(i), 0), 1))
		want = append(want, at(uint64(i), uint32(api.MaxNodes-1-200*i)))
	}
	for range 100 {
		holds(t, k, in(0, 0), want...)
	}
	update(t, k, moved(in(api.MaxNodes-1, 0), at(0, 0), 1))
	holds(t, k, in(0, 0), at(0, 1))
}

// Something is at each place, and each input is asked for.
func TestAllPairs(t *testing.T) {
	const n = 300
	k := tracker(t, ring(n, path(0, 1)))
	for i := range n {
		update(t, k, moved(out(i, 0), at(1000+uint64(i), 0), 1), moved(in(i, 0), at(2000, 0), 1))
	}
	for i := range n {
		// The further back a thing is, the lesser is its epoch, and the greater what is added; what is ahead of the input comes all around, too late.
		back := i
		if i == 0 {
			back = n
		}
		var want []api.Time
		for j := range back {
			want = append(want, at(1000+uint64(j), uint32(back-1-j)))
		}
		holds(t, k, in(i, 0), want...)
	}
}

func TestManyPoints(t *testing.T) {
	k := tracker(t, loop(1))
	const n = 20000
	var l, back []api.Moved
	for i := range n {
		l = append(l, moved(out(3, 0), at(uint64(i), n-uint32(i)), 1))
		back = append(back, moved(out(3, 0), at(uint64(i), n-uint32(i)), -1))
	}
	update(t, k, l...)
	holds(t, k, in(5, 0), at(0))
	for i := range n - 3 {
		update(t, k, back[i])
	}
	holds(t, k, in(2, 1), at(n-3, 3), at(n-2, 2), at(n-1, 1))
	update(t, k, back[n-3:]...)
	done(t, k, true)
}
