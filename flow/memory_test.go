package flow_test

import (
	"slices"
	"testing"

	"penstock/api"
	"penstock/flow"
)

// roomy is g, all of whose lists have more behind their ends, which is no part of them.
func roomy(g api.Graph) api.Graph {
	var h api.Graph
	for _, n := range g.Nodes {
		var l []api.Inner
		for _, i := range n.Inner {
			i.Path.Enter = append(slices.Clone(i.Path.Enter), 70, 80, 90, 100)[:len(i.Path.Enter)]
			l = append(l, i)
		}
		n.Inner = append(l, inner(9, 9, path(9, 9)))[:len(l)]
		h.Nodes = append(h.Nodes, n)
	}
	h.Nodes = append(h.Nodes, node(9, 9, 9))[:len(g.Nodes)]
	h.Edges = append(slices.Clone(g.Edges), edge(in(9, 9), out(9, 9)))[:len(g.Edges)]
	return h
}

// whole is a copy of all that g has, also behind the ends.
func whole(g api.Graph) api.Graph {
	h := api.Graph{Nodes: slices.Clone(g.Nodes[:cap(g.Nodes)]), Edges: slices.Clone(g.Edges[:cap(g.Edges)])}
	for i, n := range h.Nodes {
		h.Nodes[i].Inner = slices.Clone(n.Inner[:cap(n.Inner)])
		for k, x := range h.Nodes[i].Inner {
			h.Nodes[i].Inner[k].Path.Enter = slices.Clone(x.Path.Enter[:cap(x.Path.Enter)])
		}
	}
	return h
}

func sameGraph(a, b api.Graph) bool {
	return slices.Equal(a.Edges, b.Edges) && slices.EqualFunc(a.Nodes, b.Nodes, func(m, n api.Node) bool {
		return m.Ins == n.Ins && m.Outs == n.Outs && m.Depth == n.Depth && slices.EqualFunc(m.Inner, n.Inner, func(x, y api.Inner) bool {
			return x.In == y.In && x.Out == y.Out && same(x.Path, y.Path)
		})
	})
}

// spoilGraph writes over all that g has, also behind the ends.
func spoilGraph(g api.Graph) {
	for _, n := range g.Nodes {
		for _, i := range n.Inner[:cap(n.Inner)] {
			spoilCounters(i.Path.Enter)
		}
		for i := range n.Inner[:cap(n.Inner)] {
			n.Inner[:cap(n.Inner)][i] = inner(5, 5, path(5, 5, 5))
		}
	}
	for i := range g.Nodes {
		g.Nodes[i] = node(5, 5, 5)
	}
	for i := range g.Edges {
		g.Edges[i] = edge(in(5, 5), in(5, 5))
	}
}

func spoilCounters(l []uint32) {
	for i := range l[:cap(l)] {
		l[:cap(l)][i] = 999
	}
}

func spoilPaths(l []api.Path) {
	l = l[:cap(l)]
	for i := range l {
		spoilCounters(l[i].Enter)
		l[i] = path(99, 99)
	}
}

func copyPaths(l []api.Path) []api.Path {
	var c []api.Path
	for _, p := range l {
		p.Enter = slices.Clone(p.Enter)
		c = append(c, p)
	}
	return c
}

func copyLeads(l []api.Lead) []api.Lead {
	var c []api.Lead
	for _, x := range l {
		x.Ways = copyPaths(x.Ways)
		c = append(c, x)
	}
	return c
}

// graphs is some that Check accepts, with paths that enter counters.
func graphs() []api.Graph {
	return []api.Graph{line(), loop(1), twice(path(1, 0, 1), path(0, 1)),
		choices(3, path(3, 0, 1, 0, 2), path(3, 0, 0, 5, 5), path(2, 7, 0, 0), path(1, 1, 4)),
		choices(0, path(0, 0), path(0, 0))}
}

func TestArgumentsAreAsTheyWere(t *testing.T) {
	for _, g := range append(graphs(), loop(0), graph(nodes(node(0, 9, 0)))) {
		h := roomy(g)
		before := whole(h)
		flow.Check(h)
		flow.All(h)
		for _, from := range places(g) {
			flow.Ways(h, from, in(1, 0))
			flow.Targets(h, from)
		}
		if !sameGraph(whole(h), before) {
			t.Errorf("%v has changed to %v", before, whole(h))
		}
		if flow.Check(h) != flow.Check(g) {
			t.Errorf("%v: what is behind the ends is read", g)
		}
	}
}

func TestWaysAreNewMemory(t *testing.T) {
	for _, g := range graphs() {
		for _, from := range places(g) {
			for _, to := range places(g) {
				if to.Out {
					continue
				}
				h := roomy(g)
				first, second := ways(t, h, from, to), ways(t, h, from, to)
				want := copyPaths(second)
				spoilPaths(first)
				if !sameList(second, want) {
					t.Fatalf("Ways(%v, %v): what is answered shares memory with the answer before", from, to)
				}
				spoilGraph(h)
				if !sameList(second, want) {
					t.Fatalf("Ways(%v, %v): what is answered shares memory with an argument", from, to)
				}
				for i := range second {
					spoilCounters(second[i].Enter)
					want[i] = second[i]
					if !sameList(second, want) {
						t.Fatalf("Ways(%v, %v): the paths share memory", from, to)
					}
				}
			}
		}
	}
}

func TestLeadsAreNewMemory(t *testing.T) {
	for _, g := range graphs() {
		h := roomy(g)
		first, _ := flow.All(h)
		second, _ := flow.All(h)
		want := copyLeads(second)
		for i := range first {
			spoilPaths(first[i].Ways)
		}
		if !sameLeads(second, want) {
			t.Fatalf("All(%v): what is answered shares memory with the answer before", g)
		}
		spoilGraph(h)
		if !sameLeads(second, want) {
			t.Fatalf("All(%v): what is answered shares memory with an argument", g)
		}
		for i := range second {
			for k := range second[i].Ways {
				spoilCounters(second[i].Ways[k].Enter)
			}
			_ = append(second[i].Ways, path(77, 77))
			want[i].Ways = copyPaths(second[i].Ways)
			if !sameLeads(second, want) {
				t.Fatalf("All(%v): the answer's lists share memory", g)
			}
		}
	}
}

func TestTargetsAreNewMemory(t *testing.T) {
	g := graph(nodes(node(0, 0, 1), node(0, 3, 0)), edge(out(0, 0), in(1, 2)), edge(out(0, 0), in(1, 0)), edge(out(0, 0), in(1, 1)))
	first, second := flow.Targets(g, out(0, 0)), flow.Targets(g, out(0, 0))
	for i := range first[:cap(first)] {
		first[:cap(first)][i] = out(9, 9)
	}
	if want := []api.Port{in(1, 0), in(1, 1), in(1, 2)}; !slices.Equal(second, want) {
		t.Errorf("%v, not %v", second, want)
	}
}
