package flow_test

import (
	"math"
	"slices"
	"testing"

	"penstock/api"
	"penstock/flow"
)

const top = math.MaxUint32

func path(leave int, add uint32, enter ...uint32) api.Path {
	return api.Path{Leave: leave, Add: add, Enter: enter}
}

func in(node, port int) api.Port { return api.Port{Node: node, Port: port} }

func out(node, port int) api.Port { return api.Port{Node: node, Out: true, Port: port} }

func edge(from, to api.Port) api.Edge { return api.Edge{From: from, To: to} }

func inner(in, out int, p api.Path) api.Inner { return api.Inner{In: in, Out: out, Path: p} }

func node(depth, ins, outs int, l ...api.Inner) api.Node {
	return api.Node{Ins: ins, Outs: outs, Depth: depth, Inner: l}
}

// one is a node with one input, one output and one inner path.
func one(depth int, p api.Path) api.Node { return node(depth, 1, 1, inner(0, 0, p)) }

func graph(nodes []api.Node, edges ...api.Edge) api.Graph {
	return api.Graph{Nodes: nodes, Edges: edges}
}

func nodes(l ...api.Node) []api.Node { return l }

func paths(l ...api.Path) []api.Path { return l }

// same says whether two paths are the same; nil is the same as no counters.
func same(a, b api.Path) bool {
	return a.Leave == b.Leave && a.Add == b.Add && slices.Equal(a.Enter, b.Enter)
}

func sameList(a, b []api.Path) bool { return slices.EqualFunc(a, b, same) }

func sameLeads(a, b []api.Lead) bool {
	return slices.EqualFunc(a, b, func(x, y api.Lead) bool { return x.From == y.From && x.To == y.To && sameList(x.Ways, y.Ways) })
}

// source, passing node, end: the first example.
func line() api.Graph {
	return graph(nodes(node(0, 0, 1), one(0, path(0, 0)), node(0, 1, 0)), edge(out(0, 0), in(1, 0)), edge(out(1, 0), in(2, 0)))
}

// loop is the second example: source, entering node, node in the loop, adding node, leaving node, end.
func loop(add uint32) api.Graph {
	return graph(nodes(
		node(0, 0, 1),
		one(0, path(0, 0, 0)),
		node(1, 2, 1, inner(0, 0, path(0, 0)), inner(1, 0, path(0, 0))),
		one(1, path(0, add)),
		one(1, path(1, 0)),
		node(0, 1, 0),
	),
		edge(out(0, 0), in(1, 0)), edge(out(1, 0), in(2, 0)), edge(out(2, 0), in(3, 0)), edge(out(3, 0), in(2, 1)),
		edge(out(2, 0), in(4, 0)), edge(out(4, 0), in(5, 0)))
}

// ways is what Ways answers where it has no error to answer.
func ways(t *testing.T, g api.Graph, from, to api.Port) []api.Path {
	t.Helper()
	l, e := flow.Ways(g, from, to)
	if e != api.OK {
		t.Fatalf("Ways(%v, %v) = %v", from, to, e)
	}
	return l
}

// wanted is one of the answers of Ways.
type wanted struct {
	from, to api.Port
	want     []api.Path
}

func check(t *testing.T, what string, g api.Graph, l ...wanted) {
	t.Helper()
	for _, x := range l {
		if got := ways(t, g, x.from, x.to); !sameList(got, x.want) {
			t.Errorf("%s: Ways(%v, %v) = %v, want %v", what, x.from, x.to, got, x.want)
		}
	}
}

func TestWays(t *testing.T) {
	nothing := paths(path(0, 0))
	check(t, "line", line(),
		wanted{out(0, 0), in(2, 0), nothing},
		wanted{out(0, 0), in(1, 0), nothing},
		wanted{out(1, 0), in(2, 0), nothing},
		wanted{in(1, 0), in(2, 0), nothing},
		wanted{in(1, 0), in(1, 0), nothing}, // the same input, though no route leads back
		wanted{in(2, 0), in(2, 0), nothing},
		wanted{out(1, 0), in(1, 0), nil},
		wanted{in(2, 0), in(1, 0), nil},
	)
	check(t, "loop", loop(1),
		wanted{out(0, 0), in(5, 0), nothing},
		wanted{out(0, 0), in(1, 0), nothing},
		wanted{out(0, 0), in(2, 0), paths(path(0, 0, 0))},
		wanted{out(0, 0), in(2, 1), paths(path(0, 0, 1))},
		wanted{out(0, 0), in(3, 0), paths(path(0, 0, 0))},
		wanted{out(0, 0), in(4, 0), paths(path(0, 0, 0))},
		wanted{out(2, 0), in(2, 1), paths(path(0, 1))},
		wanted{in(2, 1), in(2, 1), nothing},
		wanted{in(2, 0), in(2, 1), paths(path(0, 1))},
		wanted{in(2, 1), in(2, 0), nil},
		wanted{in(3, 0), in(5, 0), paths(path(1, 0))}, // what was added is left
		wanted{out(3, 0), in(2, 1), nothing},
		wanted{out(4, 0), in(5, 0), nothing},
		wanted{out(4, 0), in(2, 0), nil},
	)
}

// choices is a node with those inner paths, all from its one input to its one output, between a source and an end.
func choices(depth int, l ...api.Path) api.Graph {
	n := node(depth, 1, 1)
	for _, p := range l {
		n.Inner = append(n.Inner, inner(0, 0, p))
	}
	return graph(nodes(node(depth, 0, 1), n, node(depth, 1, 0)), edge(out(0, 0), in(1, 0)), edge(out(1, 0), in(2, 0)))
}

func TestWaysAreTheLeastInOrder(t *testing.T) {
	for _, x := range []struct {
		depth   int
		l, want []api.Path
	}{
		{0, paths(path(0, 0), path(0, 0)), paths(path(0, 0))},
		{1, paths(path(0, 3), path(0, 2), path(0, 7)), paths(path(0, 2))},
		{1, paths(path(0, 2), path(0, 2)), paths(path(0, 2))},

		// What is entered may be less than what is kept, never the other way round.
		{1, paths(path(0, 2), path(1, 0, 2)), paths(path(1, 0, 2))},
		{1, paths(path(0, 2), path(1, 0, 3)), paths(path(0, 2), path(1, 0, 3))},
		{1, paths(path(1, 0, 3), path(0, 2)), paths(path(0, 2), path(1, 0, 3))},
		{1, paths(path(1, 0, 3), path(1, 0, 4), path(1, 0, 3)), paths(path(1, 0, 3))},

		// By Leave, then by Add, then by Enter, the outermost counter first.
		{2, paths(path(1, 3, 1), path(1, 2, 4), path(1, 1, 7)), paths(path(1, 1, 7), path(1, 2, 4), path(1, 3, 1))},
		{2, paths(path(2, 0, 3, 1), path(2, 0, 1, 9), path(2, 0, 2, 4)), paths(path(2, 0, 1, 9), path(2, 0, 2, 4), path(2, 0, 3, 1))},
		{2, paths(path(2, 0, 1, 1), path(1, 0, 5), path(0, 3)), paths(path(0, 3), path(1, 0, 5), path(2, 0, 1, 1))},
		{2, paths(path(2, 0, 0, 1), path(1, 0, 5), path(0, 3)), paths(path(2, 0, 0, 1))},
		{3, paths(path(3, 0, 1, 0, 2), path(3, 0, 1, 0, 1), path(3, 0, 0, 5, 5), path(3, 0, 1, 1, 0)),
			paths(path(3, 0, 0, 5, 5), path(3, 0, 1, 0, 1), path(3, 0, 1, 1, 0))},
		{3, paths(path(3, 0, 1, 1, 0), path(3, 0, 1, 0, 1), path(3, 0, 0, 1, 1)),
			paths(path(3, 0, 0, 1, 1), path(3, 0, 1, 0, 1), path(3, 0, 1, 1, 0))},
		{3, paths(path(1, top, 0), path(1, 0, top), path(0, top)), paths(path(1, 0, top), path(1, top, 0))}, // top is at most the increase by top
		{2, paths(path(1, 10, 1), path(1, 9, 2)), paths(path(1, 9, 2), path(1, 10, 1))},
	} {
		g := choices(x.depth, x.l...)
		for _, from := range []api.Port{out(0, 0), in(1, 0)} {
			if got := ways(t, g, from, in(2, 0)); !sameList(got, x.want) {
				t.Errorf("of %v: Ways is %v, want %v", x.l, got, x.want)
			}
		}
	}
}

// The ways are compared for the depth at their beginning, and that of an output may be another one than that of its node.
func TestWaysFromAnOutputThatChangesTheDepth(t *testing.T) {
	two := node(2, 1, 1, inner(0, 0, path(1, 0, 5)), inner(0, 0, path(0, 4)), inner(0, 0, path(2, 0, 0, 9)))
	g := graph(nodes(node(0, 0, 1), one(0, path(0, 0, 7, 8)), two, node(2, 1, 0), one(2, path(2, 0)), node(0, 1, 0)),
		edge(out(0, 0), in(1, 0)), edge(out(1, 0), in(2, 0)), edge(out(2, 0), in(3, 0)), edge(out(2, 0), in(4, 0)), edge(out(4, 0), in(5, 0)))
	check(t, "entering twice", g,
		wanted{out(1, 0), in(3, 0), paths(path(0, 4), path(1, 0, 5), path(2, 0, 0, 9))},
		wanted{in(2, 0), in(3, 0), paths(path(0, 4), path(1, 0, 5), path(2, 0, 0, 9))},
		wanted{in(1, 0), in(3, 0), paths(path(0, 0, 0, 9), path(0, 0, 7, 5))}, // 7, 12 is behind 7, 5
		wanted{out(1, 0), in(5, 0), paths(path(2, 0))},
		wanted{out(0, 0), in(5, 0), paths(path(0, 0))},
		wanted{out(4, 0), in(5, 0), paths(path(0, 0))},
	)
}

// Then is applied from the first step on: what has grown too far on the way does not count, even where it would be left.
func TestRoutesThatGrowTooFarDoNotCount(t *testing.T) {
	row := func(l ...api.Path) api.Graph {
		g := graph(nodes(node(1, 0, 1)))
		for i, p := range l {
			g.Nodes = append(g.Nodes, one(1, p))
			g.Edges = append(g.Edges, edge(out(i, 0), in(i+1, 0)))
		}
		g.Nodes = append(g.Nodes, node(1, 1, 0))
		g.Edges = append(g.Edges, edge(out(len(l), 0), in(len(l)+1, 0)))
		return g
	}
	check(t, "just not too far", row(path(0, top-1), path(0, 1)),
		wanted{out(0, 0), in(3, 0), paths(path(0, top))})
	check(t, "too far", row(path(0, top), path(0, 1), path(1, 0, 5)),
		wanted{out(0, 0), in(2, 0), paths(path(0, top))},
		wanted{out(0, 0), in(3, 0), nil},
		wanted{out(0, 0), in(4, 0), nil},
		wanted{out(1, 0), in(4, 0), paths(path(1, 0, 5))},
		wanted{in(1, 0), in(4, 0), nil})
	check(t, "entered, and too far", row(path(1, 0, top), path(0, 1), path(1, 0, 5)),
		wanted{out(0, 0), in(2, 0), paths(path(1, 0, top))},
		wanted{out(0, 0), in(4, 0), nil},
		wanted{in(2, 0), in(4, 0), paths(path(1, 0, 5))})
	g := row(path(0, top), path(0, 1), path(1, 0, 5))
	g.Nodes[2].Inner = append(g.Nodes[2].Inner, inner(0, 0, path(1, 0, 9)))
	check(t, "another path does count", g,
		wanted{out(0, 0), in(3, 0), paths(path(1, 0, 9))},
		wanted{out(0, 0), in(4, 0), paths(path(1, 0, 5))})
}

func TestWaysErrors(t *testing.T) {
	broken := line()
	broken.Nodes[1].Depth = 4
	for _, x := range []struct {
		g        api.Graph
		from, to api.Port
		want     api.Errno
	}{
		{line(), in(0, 0), in(1, 0), api.ErrFlowForm},
		{line(), out(0, 1), in(1, 0), api.ErrFlowForm},
		{line(), out(2, 0), in(1, 0), api.ErrFlowForm},
		{line(), out(3, 0), in(1, 0), api.ErrFlowForm},
		{line(), out(-1, 0), in(1, 0), api.ErrFlowForm},
		{line(), out(0, -1), in(1, 0), api.ErrFlowForm},
		{line(), in(1, -1), in(1, 0), api.ErrFlowForm},
		{line(), in(1, 1), in(1, 0), api.ErrFlowForm},
		{line(), out(math.MaxInt, 0), in(1, 0), api.ErrFlowForm},
		{line(), out(0, math.MinInt), in(1, 0), api.ErrFlowForm},
		{line(), out(0, 0), out(1, 0), api.ErrFlowForm},
		{line(), out(1, 0), out(1, 0), api.ErrFlowForm},
		{line(), out(0, 0), in(0, 0), api.ErrFlowForm},
		{line(), out(0, 0), in(1, 1), api.ErrFlowForm},
		{line(), out(0, 0), in(1, -1), api.ErrFlowForm},
		{line(), out(0, 0), in(3, 0), api.ErrFlowForm},
		{line(), out(0, 0), in(-1, 0), api.ErrFlowForm},
		{line(), out(0, 0), in(math.MinInt, 0), api.ErrFlowForm},
		{line(), out(0, 0), in(1, math.MaxInt), api.ErrFlowForm},
		{graph(nil), in(0, 0), in(0, 0), api.ErrFlowForm},

		// The error of Check comes first.
		{broken, out(0, 0), in(1, 0), api.ErrFlowForm},
		{loop(0), out(0, 0), in(5, 0), api.ErrFlowCycle},
		{loop(0), out(9, 0), in(5, 0), api.ErrFlowCycle},
		{loop(0), out(0, 0), out(2, 0), api.ErrFlowCycle},
	} {
		if l, e := flow.Ways(x.g, x.from, x.to); e != x.want || len(l) != 0 {
			t.Errorf("Ways(%v, %v) = %v, %v, want %v", x.from, x.to, l, e, x.want)
		}
	}
}

func TestAll(t *testing.T) {
	nothing := paths(path(0, 0))
	for _, x := range []struct {
		g    api.Graph
		want []api.Lead
	}{
		{graph(nil), nil},
		{graph(nodes(node(0, 0, 3))), nil},
		{graph(nodes(node(3, 2, 1))), []api.Lead{{From: in(0, 0), To: in(0, 0), Ways: nothing}, {From: in(0, 1), To: in(0, 1), Ways: nothing}}},
		{line(), []api.Lead{
			{From: out(0, 0), To: in(1, 0), Ways: nothing}, {From: out(0, 0), To: in(2, 0), Ways: nothing},
			{From: in(1, 0), To: in(1, 0), Ways: nothing}, {From: in(1, 0), To: in(2, 0), Ways: nothing},
			{From: out(1, 0), To: in(2, 0), Ways: nothing},
			{From: in(2, 0), To: in(2, 0), Ways: nothing},
		}},
		// Two inputs, two outputs, edges back and forth.
		{graph(nodes(node(1, 2, 2, inner(1, 0, path(0, 2)), inner(0, 1, path(0, 3))), node(1, 1, 0)),
			edge(out(0, 1), in(1, 0)), edge(out(0, 0), in(0, 0)), edge(out(0, 0), in(1, 0))),
			[]api.Lead{
				{From: in(0, 0), To: in(0, 0), Ways: nothing}, {From: in(0, 0), To: in(1, 0), Ways: paths(path(0, 3))},
				{From: in(0, 1), To: in(0, 0), Ways: paths(path(0, 2))}, {From: in(0, 1), To: in(0, 1), Ways: nothing}, {From: in(0, 1), To: in(1, 0), Ways: paths(path(0, 2))},
				{From: out(0, 0), To: in(0, 0), Ways: nothing}, {From: out(0, 0), To: in(1, 0), Ways: nothing},
				{From: out(0, 1), To: in(1, 0), Ways: nothing},
				{From: in(1, 0), To: in(1, 0), Ways: nothing},
			}},
	} {
		if got, e := flow.All(x.g); e != api.OK || !sameLeads(got, x.want) {
			t.Errorf("All(%v) = %v, %v, want %v", x.g, got, e, x.want)
		}
	}
	for _, g := range []api.Graph{loop(0), graph(nodes(node(4, 0, 0))), graph(nodes(node(0, 0, 1)), edge(out(0, 0), in(0, 0)))} {
		want := flow.Check(g)
		if l, e := flow.All(g); e == api.OK || e != want || len(l) != 0 {
			t.Errorf("All(%v) = %v, %v, want %v", g, l, e, want)
		}
	}
}

// places is all places of g, in order.
func places(g api.Graph) []api.Port {
	var l []api.Port
	for i, n := range g.Nodes {
		for k := range n.Ins {
			l = append(l, in(i, k))
		}
		for k := range n.Outs {
			l = append(l, out(i, k))
		}
	}
	return l
}

// eachWays is what All should answer: what Ways does, for each place and each input.
func eachWays(t *testing.T, g api.Graph) []api.Lead {
	t.Helper()
	var l []api.Lead
	for _, from := range places(g) {
		for _, to := range places(g) {
			if to.Out {
				continue
			}
			if w := ways(t, g, from, to); len(w) > 0 {
				l = append(l, api.Lead{From: from, To: to, Ways: w})
			}
		}
	}
	return l
}

func TestAllIsWaysOfEach(t *testing.T) {
	wide := graph(nodes(node(2, 8, 8), node(2, 8, 8)))
	for i := range 8 {
		wide.Nodes[0].Inner = append(wide.Nodes[0].Inner, inner(7-i, i, path(0, uint32(i))))
		wide.Nodes[1].Inner = append(wide.Nodes[1].Inner, inner(i, i, path(1, 2, uint32(i))))
		wide.Edges = append(wide.Edges, edge(out(0, i), in(1, 7-i)), edge(out(1, i), in(0, i)), edge(out(1, i), in(0, 7-i)))
	}
	for _, g := range []api.Graph{line(), loop(1), loop(top), wide, choices(2, path(1, 3, 1), path(1, 2, 4))} {
		want := eachWays(t, g)
		if got, e := flow.All(g); e != api.OK || !sameLeads(got, want) {
			t.Errorf("All(%v) = %v, %v, want %v", g, got, e, want)
		}
	}
}

func TestTargets(t *testing.T) {
	g := graph(nodes(node(0, 2, 2), node(0, 3, 0), node(0, 1, 1)),
		edge(out(0, 0), in(2, 0)), edge(out(0, 1), in(1, 2)), edge(out(0, 0), in(1, 1)), edge(out(0, 0), in(1, 0)),
		edge(out(0, 0), in(1, 1)), edge(out(0, 0), in(0, 1)), edge(out(2, 0), in(0, 0)), edge(out(0, 0), in(2, 0)))
	if e := flow.Check(g); e != api.OK {
		t.Fatal(e)
	}
	for _, x := range []struct {
		from api.Port
		want []api.Port
	}{
		{out(0, 0), []api.Port{in(0, 1), in(1, 0), in(1, 1), in(2, 0)}},
		{out(0, 1), []api.Port{in(1, 2)}},
		{out(2, 0), []api.Port{in(0, 0)}},
		{in(0, 0), nil},
		{in(2, 0), nil},
		{out(1, 0), nil},
		{out(9, 0), nil},
		{out(-1, -1), nil},
	} {
		if got := flow.Targets(g, x.from); !slices.Equal(got, x.want) {
			t.Errorf("Targets(%v) = %v, want %v", x.from, got, x.want)
		}
	}
	if got := flow.Targets(api.Graph{}, out(0, 0)); len(got) != 0 {
		t.Error(got)
	}
}

// What is no graph that Check accepts has no targets to speak of, but an input has none at all.
func TestTargetsOfAnInput(t *testing.T) {
	if got := flow.Targets(graph(nodes(node(0, 1, 1)), edge(in(0, 0), in(0, 0))), in(0, 0)); len(got) != 0 {
		t.Error(got)
	}
}
