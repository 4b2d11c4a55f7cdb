package track_test

import (
	"math"
	"slices"
	"testing"

	"penstock/api"
	"penstock/stamp"
	"penstock/track"
)

const top = math.MaxUint32

func path(leave int, add uint32, enter ...uint32) api.Path {
	return api.Path{Leave: leave, Add: add, Enter: enter}
}

func in(node, port int) api.Port { return api.Port{Node: node, Port: port} }

func out(node, port int) api.Port { return api.Port{Node: node, Out: true, Port: port} }

func edge(from, to api.Port) api.Edge { return api.Edge{From: from, To: to} }

func inner(in, out int, p api.Path) api.Inner { return api.Inner{In: in, Out: out, Path: p} }

func node(depth, ins, outs int, l ...api.Inner) api.Node {
	return api.Node{Ins: ins, Outs: outs, Depth: depth, Inner: l}
}

// one is a node with one input, one output and one inner path.
func one(depth int, p api.Path) api.Node { return node(depth, 1, 1, inner(0, 0, p)) }

func graph(nodes []api.Node, edges ...api.Edge) api.Graph {
	return api.Graph{Nodes: nodes, Edges: edges}
}

func nodes(l ...api.Node) []api.Node { return l }

// loop is the second example of chapter 6: source, entering node, node in the loop, adding node, leaving node, end.
func loop(add uint32) api.Graph {
	return graph(nodes(
		node(0, 0, 1),
		one(0, path(0, 0, 0)),
		node(1, 2, 1, inner(0, 0, path(0, 0)), inner(1, 0, path(0, 0))),
		one(1, path(0, add)),
		one(1, path(1, 0)),
		node(0, 1, 0),
	),
		edge(out(0, 0), in(1, 0)), edge(out(1, 0), in(2, 0)), edge(out(2, 0), in(3, 0)), edge(out(3, 0), in(2, 1)),
		edge(out(2, 0), in(4, 0)), edge(out(4, 0), in(5, 0)))
}

// choices is a node with those inner paths, all from its one input to its one output, between a source and an end.
func choices(depth int, l ...api.Path) api.Graph {
	n := node(depth, 1, 1)
	for _, p := range l {
		n.Inner = append(n.Inner, inner(0, 0, p))
	}
	return graph(nodes(node(depth, 0, 1), n, node(depth, 1, 0)), edge(out(0, 0), in(1, 0)), edge(out(1, 0), in(2, 0)))
}

func at(epoch uint64, loops ...uint32) api.Time { return api.Time{Epoch: epoch, Loops: loops} }

func times(l ...api.Time) []api.Time { return l }

func moved(p api.Port, t api.Time, diff int64) api.Moved {
	return api.Moved{Point: api.Point{At: p, Time: t}, Diff: diff}
}

func tracker(t *testing.T, g api.Graph) *track.Tracker {
	t.Helper()
	k, e := track.New(g)
	if e != api.OK {
		t.Fatalf("New(%v) = %v", g, e)
	}
	return k
}

func update(t *testing.T, k *track.Tracker, l ...api.Moved) {
	t.Helper()
	if e := k.Update(l); e != api.OK {
		t.Fatalf("Update(%v) = %v", l, e)
	}
}

func same(a, b []api.Time) bool {
	return slices.EqualFunc(a, b, func(x, y api.Time) bool { return stamp.Cmp(x, y) == 0 })
}

// holds says what a tracker should answer for an input.
func holds(t *testing.T, k *track.Tracker, p api.Port, want ...api.Time) {
	t.Helper()
	if got, e := k.Frontier(p); e != api.OK || !same(got, want) {
		t.Errorf("Frontier(%v) = %v, %v, want %v", p, got, e, want)
	}
}

func done(t *testing.T, k *track.Tracker, want bool) {
	t.Helper()
	if k.Done() != want {
		t.Errorf("Done is %v", !want)
	}
}

// The first example.
func TestLoop(t *testing.T) {
	k := tracker(t, loop(1))
	done(t, k, true)
	for _, p := range []api.Port{in(1, 0), in(2, 0), in(2, 1), in(3, 0), in(4, 0), in(5, 0)} {
		holds(t, k, p)
	}
	update(t, k, moved(out(0, 0), at(3), 1))
	done(t, k, false)
	holds(t, k, in(1, 0), at(3))
	holds(t, k, in(2, 0), at(3, 0))
	holds(t, k, in(2, 1), at(3, 1))
	holds(t, k, in(3, 0), at(3, 0))
	holds(t, k, in(4, 0), at(3, 0))
	holds(t, k, in(5, 0), at(3))
	update(t, k, moved(out(3, 0), at(2, 4), 1))
	holds(t, k, in(1, 0), at(3))
	holds(t, k, in(2, 0), at(3, 0))
	holds(t, k, in(2, 1), at(2, 4), at(3, 1))
	holds(t, k, in(3, 0), at(2, 4), at(3, 0))
	holds(t, k, in(5, 0), at(2))
	update(t, k, moved(out(0, 0), at(3), -1))
	holds(t, k, in(2, 0))
	holds(t, k, in(2, 1), at(2, 4))
	holds(t, k, in(5, 0), at(2))
	done(t, k, false)
	update(t, k, moved(out(3, 0), at(2, 4), -1))
	for _, p := range []api.Port{in(1, 0), in(2, 0), in(2, 1), in(3, 0), in(4, 0), in(5, 0)} {
		holds(t, k, p)
	}
	done(t, k, true)
}

// Things at inputs come to this input, too; and to where they go from there.
func TestThingsAtInputs(t *testing.T) {
	k := tracker(t, loop(2))
	update(t, k, moved(in(2, 1), at(7, 5), 1))
	holds(t, k, in(2, 1), at(7, 5))
	holds(t, k, in(2, 0))
	holds(t, k, in(3, 0), at(7, 5))
	holds(t, k, in(5, 0), at(7))
	update(t, k, moved(in(2, 1), at(7, 5), -1), moved(out(2, 0), at(7, 5), 1))
	holds(t, k, in(2, 1), at(7, 7))
	holds(t, k, in(3, 0), at(7, 5))
	update(t, k, moved(out(2, 0), at(7, 5), -1), moved(in(3, 0), at(7, 5), 1), moved(in(4, 0), at(7, 5), 1))
	update(t, k, moved(in(3, 0), at(7, 5), -1), moved(out(3, 0), at(7, 7), 1))
	holds(t, k, in(2, 1), at(7, 7))
	holds(t, k, in(4, 0), at(7, 5))
	update(t, k, moved(out(3, 0), at(7, 7), -1), moved(in(5, 0), at(7), 1), moved(in(4, 0), at(7, 5), -1))
	holds(t, k, in(2, 1))
	holds(t, k, in(5, 0), at(7))
	done(t, k, false)
}

func TestEachWayCounts(t *testing.T) {
	k := tracker(t, choices(2, path(0, 3), path(1, 0, 9), path(1, 1, 0), path(2, 0, 5, 5)))
	update(t, k, moved(out(0, 0), at(4, 2, 8), 1))
	holds(t, k, in(1, 0), at(4, 2, 8))
	holds(t, k, in(2, 0), at(4, 2, 9), at(4, 3, 0)) // also 4(2,11), 4(5,5)
	update(t, k, moved(out(0, 0), at(4, 9, 1), 1), moved(in(2, 0), at(1, 50, 50), 2))
	holds(t, k, in(1, 0), at(4, 2, 8), at(4, 9, 1))
	holds(t, k, in(2, 0), at(1, 50, 50), at(4, 2, 9), at(4, 3, 0)) // 4(9,4), 4(10,0) are no longer least
	update(t, k, moved(out(0, 0), at(4, 2, 8), -1), moved(in(2, 0), at(1, 50, 50), -1))
	holds(t, k, in(2, 0), at(1, 50, 50), at(4, 5, 5), at(4, 9, 4), at(4, 10, 0))
	update(t, k, moved(in(2, 0), at(1, 50, 50), -1))
	holds(t, k, in(2, 0), at(4, 5, 5), at(4, 9, 4), at(4, 10, 0))
}

// What is there several times is there till the last one is gone; what is there fewer than 0 times is not.
func TestCounts(t *testing.T) {
	k := tracker(t, loop(1))
	p := out(0, 0)
	update(t, k, moved(p, at(1), 2), moved(p, at(2), 1), moved(p, at(1), 1))
	holds(t, k, in(1, 0), at(1))
	update(t, k, moved(p, at(1), -2))
	holds(t, k, in(1, 0), at(1))
	update(t, k, moved(p, at(1), -1))
	holds(t, k, in(1, 0), at(2))
	update(t, k, moved(p, at(1), -1))
	holds(t, k, in(1, 0), at(2))
	update(t, k, moved(p, at(2), -1))
	holds(t, k, in(1, 0))
	done(t, k, false)
	update(t, k, moved(p, at(1), 2))
	holds(t, k, in(1, 0), at(1))
	update(t, k, moved(p, at(1), -1))
	done(t, k, true)

	// The same time elsewhere, and another one there, have counts of their own.
	update(t, k, moved(in(2, 0), at(1, 0), 1), moved(in(2, 1), at(1, 0), -1))
	holds(t, k, in(2, 0), at(1, 0))
	holds(t, k, in(2, 1), at(1, 1))
	done(t, k, false)
	update(t, k, moved(in(2, 0), at(1, 0), -1), moved(out(2, 0), at(1, 0), 1))
	done(t, k, false)
	update(t, k, moved(in(2, 1), at(1, 0), 1), moved(out(2, 0), at(1, 0), -1))
	done(t, k, true)
	update(t, k, moved(in(2, 0), at(1, 2), 1), moved(in(2, 0), at(1, 3), -1), moved(in(2, 0), at(2, 2), -1))
	done(t, k, false)
	update(t, k, moved(in(2, 0), at(1, 2), -1))
	done(t, k, false)
	update(t, k, moved(in(2, 0), at(1, 3), 1), moved(in(2, 0), at(2, 2), 1))
	done(t, k, true)
	update(t, k)
	update(t, k, moved(in(2, 0), at(1, 2), 0))
	done(t, k, true)
}

func TestCountsWrapAround(t *testing.T) {
	k := tracker(t, loop(1))
	p := out(0, 0)
	update(t, k, moved(p, at(1), math.MaxInt64))
	holds(t, k, in(1, 0), at(1))
	update(t, k, moved(p, at(1), 1))
	holds(t, k, in(1, 0)) // the least number there is
	done(t, k, false)
	update(t, k, moved(p, at(1), math.MinInt64))
	holds(t, k, in(1, 0))
	done(t, k, true)
	update(t, k, moved(p, at(1), math.MinInt64), moved(p, at(1), -1))
	holds(t, k, in(1, 0), at(1))
	update(t, k, moved(p, at(1), 1), moved(p, at(1), math.MaxInt64))
	holds(t, k, in(1, 0))
	done(t, k, false)
	update(t, k, moved(p, at(1), 1))
	done(t, k, true)
}

// Times at which Apply errs do not come: a counter cannot be so great. (What leaves it behind goes on.)
func TestTimesThatGrowTooFar(t *testing.T) {
	k := tracker(t, loop(3))
	update(t, k, moved(out(2, 0), at(5, top-3), 1))
	holds(t, k, in(2, 1), at(5, top))
	update(t, k, moved(out(2, 0), at(4, top-2), 1))
	holds(t, k, in(2, 1), at(5, top))
	holds(t, k, in(3, 0), at(4, top-2), at(5, top-3))
	holds(t, k, in(5, 0), at(4))
	update(t, k, moved(out(2, 0), at(5, top-3), -1), moved(in(2, 1), at(9, 9), 1))
	holds(t, k, in(2, 1), at(9, 9))
	update(t, k, moved(out(0, 0), at(api.MaxTime), 1))
	holds(t, k, in(2, 1), at(9, 9), at(api.MaxTime, 3))
	holds(t, k, in(5, 0), at(4))
}

func TestNew(t *testing.T) {
	for _, x := range []struct {
		g    api.Graph
		want api.Errno
	}{
		{graph(nil), api.OK},
		{loop(1), api.OK},
		{loop(0), api.ErrFlowCycle},
		{graph(nodes(node(4, 0, 0))), api.ErrFlowForm},
		{graph(nodes(node(0, 0, 1)), edge(out(0, 0), in(0, 0))), api.ErrFlowForm},
		{graph(make([]api.Node, api.MaxNodes)), api.OK},
		{graph(make([]api.Node, api.MaxNodes+1)), api.ErrFlowForm},
	} {
		k, e := track.New(x.g)
		if e != x.want || (k != nil) != (e == api.OK) {
			t.Errorf("New(%v) = %v, %v, want %v", x.g, k, e, x.want)
		}
	}
	k := tracker(t, graph(nil))
	done(t, k, true)
	update(t, k)
	if e := k.Update([]api.Moved{{}}); e != api.ErrTrackForm {
		t.Error(e)
	}
	if l, e := k.Frontier(api.Port{}); e != api.ErrTrackForm || len(l) > 0 {
		t.Error(l, e)
	}
}

// noPlaces is ports that loop has not.
func noPlaces() []api.Port {
	return []api.Port{
		in(0, 0), out(5, 0), in(1, 1), out(1, 1), in(2, 2), out(2, 1), in(6, 0), out(6, 0), in(-1, 0), out(-1, 0), in(1, -1), out(1, -1),
		in(math.MaxInt, 0), in(math.MinInt, 0), in(1, math.MaxInt), out(1, math.MinInt),
	}
}

func TestFrontierOfNoInput(t *testing.T) {
	k := tracker(t, loop(1))
	update(t, k, moved(out(0, 0), at(3), 1))
	for _, p := range append(noPlaces(), out(0, 0), out(1, 0), out(2, 0), out(4, 0)) {
		if l, e := k.Frontier(p); e != api.ErrTrackForm || len(l) > 0 {
			t.Errorf("Frontier(%v) = %v, %v", p, l, e)
		}
	}
}

// wrong is what loop has not: no place, or no time of it. In the loop the depth is 1; at the ends of what leads in and out it is not the same.
func wrong() []api.Point {
	l := []api.Point{
		{At: out(0, 0), Time: at(0, 0)}, {At: in(1, 0), Time: at(0, 0)}, {At: out(1, 0), Time: at(0)}, {At: out(1, 0), Time: at(0, 0, 0)},
		{At: in(2, 0), Time: at(0)}, {At: in(2, 1), Time: at(0, 1, 2)}, {At: out(2, 0), Time: at(0)}, {At: in(4, 0), Time: at(0)},
		{At: out(4, 0), Time: at(0, 0)}, {At: in(5, 0), Time: at(0, 0)}, {At: out(0, 0), Time: at(0, 0, 0, 0)}, {At: in(2, 0), Time: at(0, 0, 0, 0, 0)},
		{At: out(0, 0), Time: at(api.MaxTime + 1)}, {At: out(1, 0), Time: at(api.MaxTime+1, 0)}, {At: in(2, 0), Time: at(math.MaxUint64, 0)},
	}
	for _, p := range noPlaces() {
		l = append(l, api.Point{At: p, Time: at(0)}, api.Point{At: p, Time: at(0, 0)})
	}
	return l
}

// The second example, and all other points that are not of the graph: then nothing changes.
func TestUpdateOfNoPoint(t *testing.T) {
	k := tracker(t, loop(1))
	good := moved(out(0, 0), at(1), 1)
	for _, x := range wrong() {
		for _, diff := range []int64{1, 0, -1} {
			bad := api.Moved{Point: x, Diff: diff}
			for _, l := range [][]api.Moved{{bad}, {good, bad}, {bad, good}, {good, good, bad, good}} {
				if e := k.Update(l); e != api.ErrTrackForm {
					t.Errorf("Update(%v) = %v", l, e)
				}
			}
		}
	}
	done(t, k, true)
	holds(t, k, in(1, 0))
	update(t, k, good)
	for _, x := range wrong() {
		if e := k.Update([]api.Moved{moved(out(0, 0), at(1), -1), moved(in(5, 0), at(0), 1), {Point: x, Diff: 1}}); e != api.ErrTrackForm {
			t.Error(e)
		}
	}
	holds(t, k, in(1, 0), at(1))
	holds(t, k, in(5, 0), at(1))
	update(t, k, moved(out(0, 0), at(1), -1))
	done(t, k, true)
}

// The depth of the times at each place, also at the outputs of nodes that change it, and of those that do not since they have two inner paths, inputs or outputs.
func TestDepths(t *testing.T) {
	g := graph(nodes(
		one(3, path(3, 0)),
		one(0, path(0, 0, 1, 2, 3)),
		one(2, path(1, 4, 7)),
		node(1, 1, 1, inner(0, 0, path(1, 0, 5)), inner(0, 0, path(0, 1))),
		node(2, 1, 2, inner(0, 1, path(0, 1))),
		node(2, 2, 1, inner(1, 0, path(0, 1))),
		node(3, 1, 1),
	))
	k := tracker(t, g)
	for _, x := range []struct {
		p     api.Port
		depth int
	}{
		{in(0, 0), 3}, {out(0, 0), 0}, {in(1, 0), 0}, {out(1, 0), 3}, {in(2, 0), 2}, {out(2, 0), 2}, {in(3, 0), 1}, {out(3, 0), 1},
		{in(4, 0), 2}, {out(4, 0), 2}, {out(4, 1), 2}, {in(5, 0), 2}, {in(5, 1), 2}, {out(5, 0), 2}, {in(6, 0), 3}, {out(6, 0), 3},
	} {
		for depth := range 5 {
			want := api.ErrTrackForm
			if depth == x.depth {
				want = api.OK
			}
			for _, epoch := range []uint64{0, api.MaxTime} {
				if e := k.Update([]api.Moved{moved(x.p, at(epoch, make([]uint32, depth)...), 1)}); e != want {
					t.Errorf("at %v with the depth %d: %v, want %v", x.p, depth, e, want)
				}
			}
		}
	}
}

// What is counted in one tracker is not in another one, even of the same graph.
func TestTrackersAreIndependent(t *testing.T) {
	g := loop(1)
	a, b := tracker(t, g), tracker(t, g)
	update(t, a, moved(out(0, 0), at(3), 1))
	update(t, b, moved(out(0, 0), at(5), 1))
	holds(t, a, in(2, 1), at(3, 1))
	holds(t, b, in(2, 1), at(5, 1))
	update(t, b, moved(out(0, 0), at(5), -1))
	done(t, a, false)
	done(t, b, true)
	holds(t, a, in(2, 1), at(3, 1))
	holds(t, b, in(2, 1))
}
