package flow_test

import (
	"testing"

	"penstock/api"
	"penstock/flow"
)

// row is so many nodes, one behind the other, at the depth 1.
func row(n int, p api.Path) api.Graph {
	g := graph(repeated(one(1, p), n))
	for i := 1; i < n; i++ {
		g.Edges = append(g.Edges, edge(out(i-1, 0), in(i, 0)))
	}
	return g
}

func TestGreatestRows(t *testing.T) {
	g := row(api.MaxNodes, path(0, 1))
	check(t, "a row", g,
		wanted{in(0, 0), in(api.MaxNodes-1, 0), paths(path(0, api.MaxNodes-1))},
		wanted{in(api.MaxNodes-1, 0), in(0, 0), nil})
	g.Edges = append(g.Edges, edge(out(api.MaxNodes-1, 0), in(0, 0)))
	check(t, "a ring", g,
		wanted{in(5, 0), in(4, 0), paths(path(0, api.MaxNodes-1))},
		wanted{out(0, 0), in(0, 0), paths(path(0, api.MaxNodes-1))})
}

func TestGreatestRings(t *testing.T) {
	still := repeated(path(0, 0), api.MaxNodes-2)
	judge(t,
		judged{"nothing changes", ring(1, append(still[:len(still):len(still)], path(0, 0), path(0, 0))...), api.ErrFlowCycle},
		judged{"one adds", ring(1, append(still[:len(still):len(still)], path(0, 1), path(0, 0))...), api.OK},
		judged{"one begins anew", ring(1, append(still[:len(still):len(still)], path(1, 0, 0), path(0, 1))...), api.ErrFlowCycle},
		judged{"one sets 1", ring(1, append(still[:len(still):len(still)], path(1, 0, 1), path(0, 1))...), api.OK},
		judged{"out and in", ring(2, append(still[:len(still):len(still)], path(1, 1), path(0, 0, 0))...), api.OK},
	)
}

// All edges and inner paths that may be: each node leads on to the four behind it, and the last ones back.
func TestGreatestGraph(t *testing.T) {
	g := graph(repeated(node(2, 8, 8), api.MaxNodes))
	for i := range g.Nodes {
		for k := range 64 {
			g.Nodes[i].Inner = append(g.Nodes[i].Inner, inner(k%8, k/8, path(1, 1, uint32(k))))
		}
		for k := range 4 {
			g.Edges = append(g.Edges, edge(out(i, k), in((i+k+1)%api.MaxNodes, k)))
		}
	}
	check(t, "all that may be", g,
		wanted{in(0, 0), in(4, 3), paths(path(1, 1, 24))},
		wanted{in(0, 7), in(1, 0), paths(path(1, 1, 7), path(1, 1001, 3), path(1, 1002, 0))}) // those of more than a thousand come all around
}

// There are ever more routes, but few ways.
func TestManyRoutesOfFewWays(t *testing.T) {
	g := row(200, path(0, 1))
	for i := range g.Nodes {
		g.Nodes[i].Inner = append(g.Nodes[i].Inner, inner(0, 0, path(0, 3)), inner(0, 0, path(1, 0, 501)), inner(0, 0, path(1, 0, 500)))
	}
	check(t, "choices at each node", g, wanted{in(0, 0), in(199, 0), paths(path(0, 199), path(1, 0, 500))})
	leads, e := flow.All(g)
	if e != api.OK || len(leads) != 200*201/2+200*199/2 {
		t.Error(len(leads), e)
	}
}
