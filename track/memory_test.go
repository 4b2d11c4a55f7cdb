package track_test

import (
	"slices"
	"testing"

	"penstock/api"
)

// roomy is g, all of whose lists have more behind their ends, which is no part of them.
func roomy(g api.Graph) api.Graph {
	var h api.Graph
	for _, n := range g.Nodes {
		var l []api.Inner
		for _, i := range n.Inner {
			i.Path.Enter = append(slices.Clone(i.Path.Enter), 70, 80, 90, 100)[:len(i.Path.Enter)]
			l = append(l, i)
		}
		n.Inner = append(l, inner(9, 9, path(9, 9)))[:len(l)]
		h.Nodes = append(h.Nodes, n)
	}
	h.Nodes = append(h.Nodes, node(9, 9, 9))[:len(g.Nodes)]
	h.Edges = append(slices.Clone(g.Edges), edge(in(9, 9), out(9, 9)))[:len(g.Edges)]
	return h
}

// whole is a copy of all that g has, also behind the ends.
func whole(g api.Graph) api.Graph {
	h := api.Graph{Nodes: slices.Clone(g.Nodes[:cap(g.Nodes)]), Edges: slices.Clone(g.Edges[:cap(g.Edges)])}
	for i, n := range h.Nodes {
		h.Nodes[i].Inner = slices.Clone(n.Inner[:cap(n.Inner)])
		for k, x := range h.Nodes[i].Inner {
			h.Nodes[i].Inner[k].Path.Enter = slices.Clone(x.Path.Enter[:cap(x.Path.Enter)])
		}
	}
	return h
}

func sameGraph(a, b api.Graph) bool {
	return slices.Equal(a.Edges, b.Edges) && slices.EqualFunc(a.Nodes, b.Nodes, func(m, n api.Node) bool {
		return m.Ins == n.Ins && m.Outs == n.Outs && m.Depth == n.Depth && slices.EqualFunc(m.Inner, n.Inner, func(x, y api.Inner) bool {
			p, q := x.Path, y.Path
			return x.In == y.In && x.Out == y.Out && p.Leave == q.Leave && p.Add == q.Add && slices.Equal(p.Enter, q.Enter)
		})
	})
}

func spoilCounters(l []uint32) {
	for i := range l[:cap(l)] {
		l[:cap(l)][i] = 999
	}
}

// spoilGraph writes over all that g has, also behind the ends.
func spoilGraph(g api.Graph) {
	for _, n := range g.Nodes {
		for _, i := range n.Inner[:cap(n.Inner)] {
			spoilCounters(i.Path.Enter)
		}
		for i := range n.Inner[:cap(n.Inner)] {
			n.Inner[:cap(n.Inner)][i] = inner(5, 5, path(5, 5, 5))
		}
	}
	for i := range g.Nodes {
		g.Nodes[i] = node(5, 5, 5)
	}
	for i := range g.Edges {
		g.Edges[i] = edge(in(5, 5), in(5, 5))
	}
}

func spoilTimes(l []api.Time) {
	for i, t := range l[:cap(l)] {
		spoilCounters(t.Loops)
		l[:cap(l)][i] = at(999, 9, 9)
	}
}

// listed is points of loop, with more behind the ends.
func listed() []api.Moved {
	return []api.Moved{
		moved(out(0, 0), at(3), 1), moved(out(2, 0), at(2, append(make([]uint32, 0, 3), 4, 5, 6)[:1]...), 1), moved(in(2, 1), at(1, 9), 1), moved(in(9, 9), at(7), 9),
	}[:3]
}

func TestArgumentsAreAsTheyWere(t *testing.T) {
	h := roomy(loop(1))
	before := whole(h)
	k := tracker(t, h)
	l := listed()
	update(t, k, l...)
	if e := k.Update(slices.Concat(l, []api.Moved{moved(in(9, 9), at(1), 1)})); e != api.ErrTrackForm {
		t.Error(e)
	}
	holds(t, k, in(2, 1), at(1, 9), at(2, 5), at(3, 1))
	if !sameGraph(whole(h), before) {
		t.Errorf("%v has changed to %v", before, whole(h))
	}
	same := func(a, b api.Moved) bool {
		return a.Point.At == b.Point.At && a.Diff == b.Diff && a.Point.Time.Epoch == b.Point.Time.Epoch &&
			slices.Equal(a.Point.Time.Loops[:cap(a.Point.Time.Loops)], b.Point.Time.Loops[:cap(b.Point.Time.Loops)])
	}
	if want := listed(); !slices.EqualFunc(l[:cap(l)], want[:cap(want)], same) {
		t.Errorf("%v has changed to %v", want[:cap(want)], l[:cap(l)])
	}
}

// What is computed when it is needed is that of the graph as it was; and the counts are those of the points as they were.
func TestArgumentsAreNotRetained(t *testing.T) {
	h := roomy(loop(1))
	k := tracker(t, h)
	l := listed()
	update(t, k, l...)
	spoilGraph(h)
	for i := range l {
		spoilCounters(l[i].Point.Time.Loops)
		l[i] = moved(in(5, 0), at(0), 5)
	}
	for range 3 { // asked anew, and from what is known
		holds(t, k, in(1, 0), at(3))
		holds(t, k, in(2, 0), at(3, 0))
		holds(t, k, in(2, 1), at(1, 9), at(2, 5), at(3, 1))
		holds(t, k, in(3, 0), at(1, 9), at(2, 4), at(3, 0))
		holds(t, k, in(4, 0), at(1, 9), at(2, 4), at(3, 0))
		holds(t, k, in(5, 0), at(1))
	}
	update(t, k, moved(out(0, 0), at(3), -1), moved(out(2, 0), at(2, 4), -1), moved(in(2, 1), at(1, 9), -1))
	done(t, k, true)
}

func TestFrontiersAreNewMemory(t *testing.T) {
	k := tracker(t, loop(1))
	update(t, k, listed()...)
	want := times(at(1, 9), at(2, 5), at(3, 1))
	for range 5 {
		first, _ := k.Frontier(in(2, 1))
		second, _ := k.Frontier(in(2, 1))
		spoilTimes(first)
		if !same(second, want) {
			t.Fatal("a frontier shares memory with the one before")
		}
		for i := range second {
			spoilCounters(second[i].Loops)
			for _, other := range second[i+1:] {
				if other.Loops[0] == 999 {
					t.Fatal("the times of a frontier share memory")
				}
			}
		}
		holds(t, k, in(2, 1), want...)
	}
	update(t, k, moved(out(0, 0), at(3), -1), moved(out(2, 0), at(2, 4), -1), moved(in(2, 1), at(1, 9), -1))
	done(t, k, true)
}
