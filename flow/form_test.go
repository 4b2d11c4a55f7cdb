package flow_test

import (
	"math"
	"testing"

	"penstock/api"
	"penstock/flow"
)

// judged is a graph, and what Check says of it.
type judged struct {
	what string
	g    api.Graph
	want api.Errno
}

func judge(t *testing.T, l ...judged) {
	t.Helper()
	for _, x := range l {
		if e := flow.Check(x.g); e != x.want {
			t.Errorf("%s: Check is %v, want %v", x.what, e, x.want)
		}
	}
}

func repeated[T any](x T, n int) []T {
	l := make([]T, n)
	for i := range l {
		l[i] = x
	}
	return l
}

func alone(n api.Node) api.Graph { return graph(nodes(n)) }

func TestFormOfGraphs(t *testing.T) {
	pair := nodes(node(0, 0, 1), node(0, 1, 0))
	judge(t,
		judged{"nothing", graph(nil), api.OK},
		judged{"empty lists", graph(nodes(), []api.Edge{}...), api.OK},
		judged{"4000 nodes", graph(repeated(node(3, 1, 1), 4000)), api.OK},
		judged{"4001 nodes", graph(repeated(node(3, 1, 1), 4001)), api.ErrFlowForm},
		judged{"16000 edges", graph(pair, repeated(edge(out(0, 0), in(1, 0)), 16000)...), api.OK},
		judged{"16001 edges", graph(pair, repeated(edge(out(0, 0), in(1, 0)), 16001)...), api.ErrFlowForm},
		judged{"one node of many", graph(append(repeated(node(3, 1, 1), 30), node(0, 9, 0))), api.ErrFlowForm},
		judged{"one edge of many", graph(pair, append(repeated(edge(out(0, 0), in(1, 0)), 30), edge(out(0, 1), in(1, 0)))...), api.ErrFlowForm},
	)
}

func TestFormOfNodes(t *testing.T) {
	for _, x := range []struct {
		low, high int
		with      func(n int) api.Node
	}{
		{0, 3, func(n int) api.Node { return node(n, 1, 1) }},
		{0, 8, func(n int) api.Node { return node(0, n, 1) }},
		{0, 8, func(n int) api.Node { return node(0, 1, n) }},
	} {
		for _, n := range []int{x.low, x.low + 1, x.high - 1, x.high} {
			judge(t, judged{"within", alone(x.with(n)), api.OK})
		}
		for _, n := range []int{x.low - 1, x.high + 1, math.MinInt, math.MaxInt} {
			judge(t, judged{"beyond", alone(x.with(n)), api.ErrFlowForm})
		}
	}
	judge(t,
		judged{"64 inner paths", alone(node(1, 2, 2, repeated(inner(1, 1, path(0, 1)), 64)...)), api.OK},
		judged{"65 inner paths", alone(node(1, 2, 2, repeated(inner(1, 1, path(0, 1)), 65)...)), api.ErrFlowForm},
	)
}

func TestFormOfInnerPaths(t *testing.T) {
	for _, x := range []struct {
		n    api.Node
		want api.Errno
	}{
		// The input and the output are the node's.
		{node(1, 2, 3, inner(1, 2, path(0, 0))), api.OK},
		{node(1, 2, 3, inner(2, 2, path(0, 0))), api.ErrFlowForm},
		{node(1, 2, 3, inner(1, 3, path(0, 0))), api.ErrFlowForm},
		{node(1, 2, 3, inner(-1, 0, path(0, 0))), api.ErrFlowForm},
		{node(1, 2, 3, inner(0, -1, path(0, 0))), api.ErrFlowForm},
		{node(1, 0, 1, inner(0, 0, path(0, 0))), api.ErrFlowForm},
		{node(1, 1, 0, inner(0, 0, path(0, 0))), api.ErrFlowForm},
		{node(1, 1, 1, inner(1, 0, path(0, 0))), api.ErrFlowForm},
		{node(1, 1, 1, inner(math.MaxInt, math.MinInt, path(0, 0))), api.ErrFlowForm},
		{node(1, 2, 3, inner(0, 0, path(0, 0)), inner(1, 3, path(0, 0))), api.ErrFlowForm},

		// Leave is 0 to the Depth.
		{one(0, path(0, 0)), api.OK},
		{one(2, path(2, 0)), api.OK},
		{one(3, path(3, 0, 1, 2, 3)), api.OK},
		{one(0, path(-1, 0)), api.ErrFlowForm},
		{one(2, path(-1, 0)), api.ErrFlowForm},
		{one(0, path(1, 0)), api.ErrFlowForm},
		{one(2, path(3, 0)), api.ErrFlowForm},
		{one(2, path(3, 0, 1, 2)), api.ErrFlowForm},
		{one(2, path(math.MinInt, 0)), api.ErrFlowForm},
		{one(2, path(math.MaxInt, 0)), api.ErrFlowForm},

		// Epochs do not increase.
		{one(0, path(0, 1)), api.ErrFlowForm},
		{one(0, path(0, top, 1)), api.ErrFlowForm},
		{one(1, path(1, 1)), api.ErrFlowForm},
		{one(2, path(2, 1, 0, 0)), api.ErrFlowForm},
		{one(1, path(0, 1)), api.OK},
		{one(2, path(1, top, 0)), api.OK},
		{one(3, path(2, 1)), api.OK},
		{one(3, path(3, 1)), api.ErrFlowForm},

		// No more than three counters.
		{one(0, path(0, 0, 1, 2, 3)), api.OK},
		{one(0, path(0, 0, 1, 2, 3, 4)), api.ErrFlowForm},
		{one(3, path(0, 0, 1)), api.ErrFlowForm},
		{one(3, path(1, 0, 1)), api.OK},
		{one(3, path(1, 0, 1, 2)), api.ErrFlowForm},
		{one(2, path(0, 0, 1)), api.OK},

		// Only a node with one of each changes the depth.
		{one(1, path(1, 0)), api.OK},
		{one(1, path(0, 0, 5)), api.OK},
		{node(1, 2, 1, inner(0, 0, path(1, 0))), api.ErrFlowForm},
		{node(1, 1, 2, inner(0, 0, path(1, 0))), api.ErrFlowForm},
		{node(1, 1, 1, inner(0, 0, path(1, 0)), inner(0, 0, path(1, 0))), api.ErrFlowForm},
		{node(1, 1, 1, inner(0, 0, path(0, 0)), inner(0, 0, path(1, 0))), api.ErrFlowForm},
		{node(1, 2, 1, inner(0, 0, path(0, 0, 5))), api.ErrFlowForm},
		{node(1, 1, 2, inner(0, 1, path(0, 0, 5))), api.ErrFlowForm},
		{node(1, 2, 1, inner(0, 0, path(1, 0, 5))), api.OK},
		{node(2, 1, 1, inner(0, 0, path(1, 3, 5)), inner(0, 0, path(2, 0, 5, 0))), api.OK},
		{node(3, 8, 8, inner(7, 7, path(3, 0, 5, 0, 1))), api.OK},
	} {
		if e := flow.Check(alone(x.n)); e != x.want {
			t.Errorf("%v: Check is %v, want %v", x.n, e, x.want)
		}
	}
}

func TestFormOfEdges(t *testing.T) {
	l := nodes(
		node(0, 1, 2),
		node(1, 2, 1),
		one(0, path(0, 0, 5)),       // 0 to 1
		one(1, path(1, 0)),          // 1 to 0
		node(0, 1, 1),               // without an inner path it does not change the depth
		node(3, 1, 1),               //
		one(0, path(0, 0, 1, 2, 3)), // 0 to 3
		node(1, 1, 1, repeated(inner(0, 0, path(0, 1)), 2)...), // two inner paths
		one(3, path(3, 0, 1)), // 3 to 1
	)
	for _, x := range []struct {
		from, to api.Port
		want     api.Errno
	}{
		{out(0, 0), in(0, 0), api.OK},
		{out(0, 1), in(4, 0), api.OK},
		{out(0, 2), in(4, 0), api.ErrFlowForm},
		{out(0, -1), in(4, 0), api.ErrFlowForm},
		{in(0, 0), in(4, 0), api.ErrFlowForm},
		{out(-1, 0), in(4, 0), api.ErrFlowForm},
		{out(9, 0), in(4, 0), api.ErrFlowForm},
		{out(math.MaxInt, 0), in(4, 0), api.ErrFlowForm},
		{out(0, 0), in(4, 1), api.ErrFlowForm},
		{out(0, 0), in(4, -1), api.ErrFlowForm},
		{out(0, 0), out(4, 0), api.ErrFlowForm},
		{out(0, 0), in(-1, 0), api.ErrFlowForm},
		{out(0, 0), in(9, 0), api.ErrFlowForm},
		{out(0, 0), in(math.MinInt, 0), api.ErrFlowForm},
		{out(1, 0), out(1, 0), api.ErrFlowForm},

		// The depths there are equal: those of the times, not of the nodes.
		{out(0, 0), in(1, 0), api.ErrFlowForm},
		{out(1, 0), in(0, 0), api.ErrFlowForm},
		{out(1, 0), in(1, 1), api.OK},
		{out(2, 0), in(1, 1), api.OK},
		{out(2, 0), in(4, 0), api.ErrFlowForm},
		{out(2, 0), in(3, 0), api.OK},
		{out(0, 0), in(2, 0), api.OK},
		{out(1, 0), in(2, 0), api.ErrFlowForm},
		{out(3, 0), in(4, 0), api.OK},
		{out(3, 0), in(1, 0), api.ErrFlowForm},
		{out(3, 0), in(2, 0), api.OK},
		{out(4, 0), in(0, 0), api.OK},
		{out(4, 0), in(1, 0), api.ErrFlowForm},
		{out(6, 0), in(5, 0), api.OK},
		{out(6, 0), in(0, 0), api.ErrFlowForm},
		{out(7, 0), in(1, 0), api.OK},
		{out(7, 0), in(0, 0), api.ErrFlowForm},
		{out(8, 0), in(1, 0), api.OK},
		{out(8, 0), in(8, 0), api.ErrFlowForm},
	} {
		if e := flow.Check(graph(l, edge(x.from, x.to))); e != x.want {
			t.Errorf("%v to %v: Check is %v, want %v", x.from, x.to, e, x.want)
		}
	}
}

// The form comes before cycles, wherever the fault is.
func TestFormBeforeCycles(t *testing.T) {
	bad := loop(0)
	bad.Edges = append(bad.Edges, edge(out(0, 0), in(2, 0)))
	judge(t,
		judged{"a cycle", loop(0), api.ErrFlowCycle},
		judged{"and an edge between depths", bad, api.ErrFlowForm},
	)
}

func TestMemoryBeyondListsIsNotRead(t *testing.T) {
	g := line()
	g.Nodes = append(g.Nodes, node(9, 9, 9))[:3]
	g.Edges = append(g.Edges, edge(in(0, 0), in(0, 0)))[:2]
	g.Nodes[1].Inner = append(g.Nodes[1].Inner, inner(7, 7, path(7, 7)))[:1]
	g.Nodes[1].Inner[0].Path.Enter = []uint32{1, 2, 3, 4}[:0]
	judge(t, judged{"what is behind the ends", g, api.OK})
}
