package flow_test

import (
	"slices"
	"testing"

	"penstock/api"
	"penstock/flow"
)

// ring is nodes one behind the other, the last one leading back to the first one: of that depth, and those paths.
func ring(depth int, l ...api.Path) api.Graph {
	var g api.Graph
	for i, p := range l {
		g.Nodes = append(g.Nodes, one(depth, p))
		g.Edges = append(g.Edges, edge(out(i, 0), in((i+1)%len(l), 0)))
		depth += len(p.Enter) - p.Leave
	}
	return g
}

func TestRings(t *testing.T) {
	for _, x := range []struct {
		depth int
		l     []api.Path
		want  api.Errno
	}{
		// Nothing changes, or something grows.
		{0, paths(path(0, 0)), api.ErrFlowCycle},
		{0, paths(path(0, 0), path(0, 0), path(0, 0)), api.ErrFlowCycle},
		{1, paths(path(0, 0)), api.ErrFlowCycle},
		{3, paths(path(0, 0)), api.ErrFlowCycle},
		{1, paths(path(0, 1)), api.OK},
		{1, paths(path(0, 0), path(0, 1), path(0, 0)), api.OK},
		{2, paths(path(0, 1)), api.OK},
		{2, paths(path(1, 1, 0)), api.OK},
		{3, paths(path(2, 1, 0, 0)), api.OK},
		{1, paths(path(0, top)), api.OK},
		{1, paths(path(0, top), path(0, top)), api.OK},

		// What is entered is 0, or greater: it is not to be told whether that increases the time.
		{1, paths(path(1, 0, 0)), api.ErrFlowCycle},
		{1, paths(path(1, 0, 1)), api.OK},
		{2, paths(path(1, 0, 0)), api.ErrFlowCycle},
		{2, paths(path(2, 0, 0, 0)), api.ErrFlowCycle},
		{2, paths(path(2, 0, 0, 1)), api.OK},
		{2, paths(path(2, 0, 1, 0)), api.OK},
		{2, paths(path(1, 0, 1)), api.OK},
		{3, paths(path(3, 0, 0, 0, 0)), api.ErrFlowCycle},
		{3, paths(path(3, 0, 0, 1, 0)), api.OK},
		{3, paths(path(2, 0, 0, 0)), api.ErrFlowCycle},
		{3, paths(path(1, 0, 0)), api.ErrFlowCycle},
		{3, paths(path(1, 1, 0)), api.OK},

		// Out and in again.
		{0, paths(path(0, 0, 0), path(1, 0)), api.ErrFlowCycle},
		{0, paths(path(0, 0, 5), path(1, 0)), api.ErrFlowCycle}, // of the epoch nothing is changed
		{0, paths(path(0, 0, 5), path(0, 3), path(1, 0)), api.ErrFlowCycle},
		{1, paths(path(1, 0), path(0, 0, 0)), api.ErrFlowCycle},
		{1, paths(path(1, 0), path(0, 0, 5)), api.ErrFlowCycle}, // seen from the input between them
		{1, paths(path(0, 0, 0), path(0, 1), path(1, 0)), api.ErrFlowCycle},
		{1, paths(path(0, 0, 0), path(1, 1)), api.OK},
		{1, paths(path(0, 0, 0), path(0, 1), path(1, 0), path(0, 1)), api.OK},
		{2, paths(path(2, 0), path(0, 0, 1, 2)), api.ErrFlowCycle},
		{2, paths(path(1, 1), path(0, 0, 0)), api.OK},
		{0, paths(path(0, 0, 0, 0, 0), path(0, 1), path(3, 0)), api.ErrFlowCycle},

		// It depends on the input that is looked at: what is added is lost, seen from one, and what is entered grows, seen from another one.
		{1, paths(path(0, 1), path(1, 0, 0)), api.ErrFlowCycle},
		{1, paths(path(1, 0, 0), path(0, 1)), api.ErrFlowCycle},
		{1, paths(path(1, 0, 1), path(0, 1)), api.OK},
		{1, paths(path(0, 7), path(1, 0, 0), path(0, 0), path(0, 9)), api.ErrFlowCycle},
		{2, paths(path(0, 1), path(1, 0, 0)), api.ErrFlowCycle},
		{2, paths(path(0, 1), path(1, 1, 0)), api.OK},
		{2, paths(path(2, 0, 0, 5), path(1, 0, 0)), api.ErrFlowCycle},
		{2, paths(path(2, 0, 5, 0), path(1, 0, 0)), api.OK},
		{2, paths(path(2, 0, 0, 5), path(1, 0, 7)), api.OK},
		{2, paths(path(2, 0, 0, 5), path(1, 0), path(0, 0, 7)), api.ErrFlowCycle}, // at the depth 1 only the 0 is left
		{2, paths(path(2, 0, 3, 5), path(1, 0), path(0, 0, 7)), api.OK},
		{2, paths(path(2, 0, 0, 5), path(1, 1), path(0, 0, 7)), api.OK},
		{2, paths(path(2, 0, 0, 5), path(0, 3), path(1, 0, 0), path(0, 4)), api.ErrFlowCycle},
		{3, paths(path(3, 0, 0, 5, 5), path(2, 0, 0, 5), path(1, 0, 0)), api.ErrFlowCycle},
		{3, paths(path(1, 0, 0), path(2, 0, 0, 5), path(3, 0, 0, 5, 5)), api.OK},
		{3, paths(path(3, 0, 0, 5, 5), path(1, 0, 0), path(2, 0, 0, 5)), api.OK},
		{3, paths(path(2, 0, 0, 5), path(1, 0, 0), path(3, 0, 1, 5, 5)), api.OK},
		{3, paths(path(2, 1, 0, 5), path(1, 0, 0)), api.OK},
		{3, paths(path(2, 0, 0, 5), path(1, 0, 0), path(0, 8)), api.ErrFlowCycle},
	} {
		if e := flow.Check(ring(x.depth, x.l...)); e != x.want {
			t.Errorf("%v at the depth %d: Check is %v, want %v", x.l, x.depth, e, x.want)
		}
	}
}

// Rings are found wherever they begin.
func TestRingsTurned(t *testing.T) {
	l := paths(path(3, 0, 0, 5, 5), path(0, 4), path(2, 0, 0, 5), path(0, 0), path(1, 0, 0), path(0, 2), path(0, 0))
	for i := range l {
		if e := flow.Check(ring(3, slices.Concat(l[i:], l[:i])...)); e != api.ErrFlowCycle {
			t.Errorf("turned by %d: %v", i, e)
		}
	}
}

// A route that grows too far does not count, so that what it would come back with does not, either.
func TestRingsThatGrowTooFar(t *testing.T) {
	for _, x := range []struct {
		depth int
		l     []api.Path
		want  api.Errno
	}{
		// The path that enters 0 is only reached by what has grown too far.
		{1, paths(path(1, 0, top), path(0, 1), path(1, 0, 0)), api.OK},
		{1, paths(path(1, 0, top-1), path(0, 1), path(1, 0, 0)), api.ErrFlowCycle},
		{1, paths(path(0, top), path(0, 1), path(1, 0, 0)), api.OK},
		{1, paths(path(0, top-1), path(0, 1), path(1, 0, 0)), api.ErrFlowCycle},
		{1, paths(path(0, 1), path(1, 0, 0), path(0, top)), api.OK},
		{1, paths(path(0, 1), path(1, 0, 0), path(0, top-1)), api.ErrFlowCycle},
		{1, paths(path(0, 1), path(1, 0, 0), path(0, top), path(1, 0, 0)), api.ErrFlowCycle}, // each input ahead of the sum enters 0 in between
		{1, paths(path(0, 0, top), path(0, 1), path(1, 0)), api.OK},                          // in and out again: it never comes out
		{0, paths(path(0, 0, top), path(0, 1), path(1, 0)), api.OK},
		{0, paths(path(0, 0, top-1), path(0, 1), path(1, 0)), api.ErrFlowCycle},
		{2, paths(path(2, 0, top, 0), path(1, 1), path(1, 0), path(0, 0, 0, 0)), api.OK},
		{2, paths(path(1, top, 0), path(1, 1, 0), path(2, 0, 0, 0)), api.OK},
		{2, paths(path(1, top-1, 0), path(1, 1, 0), path(2, 0, 0, 0)), api.ErrFlowCycle},
	} {
		if e := flow.Check(ring(x.depth, x.l...)); e != x.want {
			t.Errorf("%v at the depth %d: Check is %v, want %v", x.l, x.depth, e, x.want)
		}
	}
	// Another path around the sum.
	g := ring(1, path(1, 0, top), path(0, 1), path(1, 0, 0))
	g.Nodes[1].Inner = append(g.Nodes[1].Inner, inner(0, 0, path(0, 0)))
	judge(t, judged{"around", g, api.ErrFlowCycle})
}

// twice is a loop in a loop: one node where both come together, with that path around the inner loop and that around the outer one.
func twice(inside, outside api.Path) api.Graph {
	return graph(nodes(
		node(0, 0, 1),
		one(0, path(0, 0, 0)),
		node(1, 2, 1, inner(0, 0, path(0, 0)), inner(1, 0, path(0, 0))),
		one(1, path(0, 0, 0)),
		node(2, 2, 1, inner(0, 0, path(0, 0)), inner(1, 0, path(0, 0))),
		one(2, inside),
		one(2, path(1, 0)),
		one(1, outside),
		one(1, path(1, 0)),
		node(0, 1, 0),
	),
		edge(out(0, 0), in(1, 0)), edge(out(1, 0), in(2, 0)), edge(out(2, 0), in(3, 0)), edge(out(3, 0), in(4, 0)),
		edge(out(4, 0), in(5, 0)), edge(out(5, 0), in(4, 1)), edge(out(4, 0), in(6, 0)), edge(out(6, 0), in(7, 0)),
		edge(out(7, 0), in(2, 1)), edge(out(6, 0), in(8, 0)), edge(out(8, 0), in(9, 0)))
}

func TestLoopsInLoops(t *testing.T) {
	judge(t,
		judged{"both add", twice(path(0, 1), path(0, 1)), api.OK},
		judged{"the inner one does not", twice(path(0, 0), path(0, 1)), api.ErrFlowCycle},
		judged{"the outer one does not", twice(path(0, 1), path(0, 0)), api.ErrFlowCycle},
		judged{"the inner one begins anew", twice(path(1, 0, 0), path(0, 1)), api.ErrFlowCycle},
		judged{"the inner one sets 1", twice(path(1, 0, 1), path(0, 1)), api.OK},
		judged{"the inner one counts for the outer one", twice(path(1, 1, 0), path(0, 1)), api.OK},
		judged{"the outer one sets 1", twice(path(0, 1), path(1, 0, 1)), api.OK},
		judged{"the outer one begins anew", twice(path(0, 1), path(1, 0, 0)), api.ErrFlowCycle},
	)
	check(t, "both add", twice(path(0, 1), path(0, 1)),
		wanted{out(0, 0), in(9, 0), paths(path(0, 0))},
		wanted{out(0, 0), in(4, 1), paths(path(0, 0, 0, 1))},
		wanted{out(0, 0), in(2, 1), paths(path(0, 0, 1))},
		wanted{out(4, 0), in(4, 0), paths(path(1, 1, 0))},
		wanted{in(4, 0), in(4, 0), paths(path(0, 0), path(1, 1, 0))},
		wanted{out(4, 0), in(4, 1), paths(path(0, 1), path(1, 1, 1))},
		wanted{out(4, 0), in(2, 1), paths(path(1, 1))},
		wanted{in(2, 1), in(2, 1), paths(path(0, 0))},
		wanted{in(5, 0), in(9, 0), paths(path(2, 0))},
	)
	check(t, "one sets 1", twice(path(1, 0, 1), path(0, 1)),
		wanted{out(4, 0), in(4, 1), paths(path(1, 0, 1))},
		wanted{in(4, 0), in(4, 0), paths(path(0, 0), path(1, 1, 0))},
		wanted{in(4, 1), in(4, 1), paths(path(0, 0), path(1, 0, 1))})
}

// Cycles stand where there are other loops, and steps, that are as they should be.
func TestOneCycleOfMany(t *testing.T) {
	g := loop(1)
	g.Nodes = append(g.Nodes, one(1, path(0, 0)))
	g.Edges = append(g.Edges, edge(out(2, 0), in(6, 0)))
	judge(t, judged{"a dead end", g, api.OK})
	g.Edges = append(g.Edges, edge(out(6, 0), in(2, 1)))
	judge(t, judged{"a second way back", g, api.ErrFlowCycle})
	g.Nodes[6] = one(1, path(0, 1))
	judge(t, judged{"which adds", g, api.OK})
	g.Nodes[3].Inner = append(g.Nodes[3].Inner, inner(0, 0, path(0, 0)))
	judge(t, judged{"a second path through the adding node", g, api.ErrFlowCycle})
	g.Nodes[3].Inner = append(g.Nodes[3].Inner[:1], inner(0, 0, path(1, 0, 0)))
	judge(t, judged{"one that begins anew", g, api.ErrFlowCycle})
	g.Nodes[3].Inner[1] = inner(0, 0, path(1, 0, 3))
	judge(t, judged{"one that sets 3", g, api.OK})

	// No route leads through both: the ways through the node do not cross.
	cross := graph(nodes(node(0, 2, 2, inner(0, 0, path(0, 0)), inner(1, 1, path(0, 0)))),
		edge(out(0, 0), in(0, 1)))
	judge(t, judged{"through twice, and out", cross, api.OK})
	cross.Edges = append(cross.Edges, edge(out(0, 1), in(0, 0)))
	judge(t, judged{"through twice, and back", cross, api.ErrFlowCycle})
	cross.Nodes[0].Inner = cross.Nodes[0].Inner[:1]
	judge(t, judged{"no way on from one input", cross, api.OK})
}

// The ring is in order, but not the part of it that another edge makes a ring of its own.
func TestRingsWithinRings(t *testing.T) {
	g := ring(2, path(1, 1, 0), path(0, 0), path(0, 1), path(0, 0))
	judge(t, judged{"whole", g, api.OK})
	for _, x := range []struct {
		from, to int
		want     api.Errno
	}{{0, 0, api.OK}, {1, 1, api.ErrFlowCycle}, {2, 1, api.OK}, {3, 1, api.OK}, {3, 3, api.ErrFlowCycle}, {1, 3, api.OK}, {0, 3, api.OK}, {2, 3, api.OK}} {
		h := g
		h.Edges = append(slices.Clone(g.Edges), edge(out(x.from, 0), in(x.to, 0)))
		if e := flow.Check(h); e != x.want {
			t.Errorf("with an edge from %d to %d: Check is %v, want %v", x.from, x.to, e, x.want)
		}
	}
}
