package track_test

import (
	"math/rand/v2"
	"testing"

	"penstock/api"
	"penstock/chain"
	"penstock/flow"
	"penstock/stamp"
	"penstock/track"
)

// places is all places of g.
func places(g api.Graph) []api.Port {
	var l []api.Port
	for i, n := range g.Nodes {
		for k := range n.Ins {
			l = append(l, in(i, k))
		}
		for k := range n.Outs {
			l = append(l, out(i, k))
		}
	}
	return l
}

func depthOf(g api.Graph, p api.Port) int {
	n := g.Nodes[p.Node]
	if p.Out && n.Ins == 1 && n.Outs == 1 && len(n.Inner) == 1 {
		return n.Depth - n.Inner[0].Path.Leave + len(n.Inner[0].Path.Enter)
	}
	return n.Depth
}

// maker makes graphs and times by chance, the same ones each time.
type maker struct {
	*rand.Rand
	grows  []uint32 // what is added
	enters []uint32
	most   int // the greatest counter of a time, or the greatest epoch
}

func (m maker) path(depth, behind int) api.Path {
	p := api.Path{Leave: m.IntN(depth + 1)}
	if depth-p.Leave > behind {
		p.Leave = depth - behind
	}
	if p.Leave < depth {
		p.Add = m.grows[m.IntN(len(m.grows))]
	}
	for range behind - depth + p.Leave {
		p.Enter = append(p.Enter, m.enters[m.IntN(len(m.enters))])
	}
	return p
}

func (m maker) node() api.Node {
	depth := m.IntN(api.MaxLoops + 1)
	if m.IntN(2) == 0 {
		return one(depth, m.path(depth, m.IntN(api.MaxLoops+1)))
	}
	n := node(depth, 1+m.IntN(2), 1+m.IntN(2))
	for range 2 + m.IntN(2) {
		n.Inner = append(n.Inner, inner(m.IntN(n.Ins), m.IntN(n.Outs), m.path(depth, depth)))
	}
	return n
}

// graph is one that may be: each edge that would not is left out.
func (m maker) graph() api.Graph {
	var g api.Graph
	for range 2 + m.IntN(5) {
		g.Nodes = append(g.Nodes, m.node())
	}
	for _, from := range places(g) {
		for _, to := range places(g) {
			if !from.Out || to.Out || depthOf(g, from) != depthOf(g, to) || m.IntN(3) == 0 {
				continue
			}
			g.Edges = append(g.Edges, edge(from, to))
			if flow.Check(g) != api.OK {
				g.Edges = g.Edges[:len(g.Edges)-1]
			}
		}
	}
	return g
}

func (m maker) time(depth int) api.Time {
	t := api.Time{Epoch: uint64(m.IntN(m.most + 1))}
	for range depth {
		t.Loops = append(t.Loops, uint32(m.IntN(m.most+1)))
	}
	return t
}

func (m maker) point(g api.Graph) api.Point {
	l := places(g)
	p := l[m.IntN(len(l))]
	return api.Point{At: p, Time: m.time(depthOf(g, p))}
}

// model is a tracker that looks at everything anew.
type model struct {
	g     api.Graph
	all   []api.Lead
	moved []api.Moved
}

func modelOf(t *testing.T, g api.Graph) *model {
	t.Helper()
	all, e := flow.All(g)
	if e != api.OK {
		t.Fatalf("All(%v) = %v", g, e)
	}
	return &model{g: g, all: all}
}

// count is that of a point.
func (m *model) count(x api.Point) int64 {
	var sum int64
	for _, y := range m.moved {
		if y.Point.At == x.At && stamp.Cmp(y.Point.Time, x.Time) == 0 {
			sum += y.Diff
		}
	}
	return sum
}

func (m *model) frontier(p api.Port) []api.Time {
	var l []api.Time
	for _, x := range m.moved {
		if m.count(x.Point) <= 0 {
			continue
		}
		for _, lead := range m.all {
			if lead.From != x.Point.At || lead.To != p {
				continue
			}
			for _, w := range lead.Ways {
				if after, e := stamp.Apply(w, x.Point.Time); e == api.OK {
					l = append(l, after)
				}
			}
		}
	}
	return chain.Of(l)
}

func (m *model) done() bool {
	for _, x := range m.moved {
		if m.count(x.Point) != 0 {
			return false
		}
	}
	return true
}

// sameAsModel holds all that a tracker answers against the model, in the order of the inputs, or in another one.
func sameAsModel(t *testing.T, k *track.Tracker, m *model, turn int) {
	t.Helper()
	l := places(m.g)
	for i := range l {
		p := l[(i+turn)%len(l)]
		got, e := k.Frontier(p)
		switch {
		case p.Out && (e != api.ErrTrackForm || len(got) > 0):
			t.Fatalf("Frontier(%v) = %v, %v", p, got, e)
		case !p.Out && (e != api.OK || !same(got, m.frontier(p))):
			t.Fatalf("%v, with %v: Frontier(%v) = %v, %v, want %v", m.g, m.moved, p, got, e, m.frontier(p))
		}
	}
	if k.Done() != m.done() {
		t.Fatalf("%v, with %v: Done is %v", m.g, m.moved, k.Done())
	}
}

func play(t *testing.T, m maker, graphs int) {
	t.Helper()
	for range graphs {
		g := m.graph()
		k, want := tracker(t, g), modelOf(t, g)
		for range 2 + m.IntN(12) {
			var l []api.Moved
			for range m.IntN(4) {
				l = append(l, api.Moved{Point: m.point(g), Diff: int64(m.IntN(5) - 2)})
			}
			update(t, k, l...)
			want.moved = append(want.moved, l...)
			sameAsModel(t, k, want, m.IntN(20))
		}
		var back []api.Moved
		for _, x := range want.moved {
			back = append(back, api.Moved{Point: x.Point, Diff: -x.Diff})
		}
		update(t, k, back...)
		want.moved = append(want.moved, back...)
		sameAsModel(t, k, want, 0)
		done(t, k, true)
	}
}

func TestFrontiersByChance(t *testing.T) {
	play(t, maker{rand.New(rand.NewPCG(1, 1)), []uint32{0, 1, 1, 2}, []uint32{0, 1, 2}, 3}, 300)
	play(t, maker{rand.New(rand.NewPCG(2, 2)), []uint32{0, 1, 3}, []uint32{0, 1, 2}, 12}, 300)
	play(t, maker{rand.New(rand.NewPCG(3, 3)), []uint32{0, 1 << 31, top - 1, top}, []uint32{0, 1, 1 << 31, top}, 3}, 300)
}

// The paths are the same, whether each is asked for alone, or many are.
func TestOneQuestionOrMany(t *testing.T) {
	m := maker{rand.New(rand.NewPCG(4, 4)), []uint32{0, 1, 2}, []uint32{0, 1}, 4}
	for range 100 {
		g := m.graph()
		many, want := tracker(t, g), modelOf(t, g)
		for range 15 {
			x := api.Moved{Point: m.point(g), Diff: 1}
			update(t, many, x)
			want.moved = append(want.moved, x)
		}
		for _, p := range places(g) {
			if p.Out {
				continue
			}
			alone := tracker(t, g)
			update(t, alone, want.moved...)
			holds(t, alone, p, want.frontier(p)...)
			holds(t, many, p, want.frontier(p)...)
		}
	}
}

// step is one thing that moves on: through its node, or along an edge (to all inputs that it leads to).
func (m maker) step(g api.Graph, x api.Point) []api.Moved {
	l := []api.Moved{{Point: x, Diff: -1}}
	if x.At.Out {
		for _, to := range flow.Targets(g, x.At) {
			l = append(l, api.Moved{Point: api.Point{At: to, Time: x.Time}, Diff: 1})
		}
		return l
	}
	for _, i := range g.Nodes[x.At.Node].Inner {
		after, e := stamp.Apply(i.Path, x.Time)
		if i.In != x.At.Port || e != api.OK || m.IntN(4) == 0 { // a node may keep things back for good
			continue
		}
		if at := out(x.At.Node, i.Out); stamp.Check(after, depthOf(g, at)) == api.OK {
			l = append(l, api.Moved{Point: api.Point{At: at, Time: after}, Diff: 1})
		}
	}
	return l
}

// As long as things move along the paths, nothing reaches an input with a time that is not beyond its frontier, and the frontier only advances.
func TestNothingComesAheadOfAFrontier(t *testing.T) {
	m := maker{rand.New(rand.NewPCG(5, 5)), []uint32{0, 1, 2}, []uint32{0, 1}, 3}
	for range 200 {
		g := m.graph()
		k := tracker(t, g)
		var things []api.Point
		for range 1 + m.IntN(3) {
			x := m.point(g)
			things = append(things, x)
			update(t, k, moved(x.At, x.Time, 1))
		}
		before := map[api.Port][]api.Time{}
		for _, p := range places(g) {
			before[p], _ = k.Frontier(p)
		}
		for range 40 {
			if len(things) == 0 {
				break
			}
			i := m.IntN(len(things))
			l := m.step(g, things[i])
			things[i] = things[len(things)-1]
			things = things[:len(things)-1]
			update(t, k, l...)
			for _, x := range l[1:] {
				things = append(things, x.Point)
				if !x.Point.At.Out && !chain.Beyond(before[x.Point.At], x.Point.Time) {
					t.Fatalf("%v: %v comes ahead of %v", g, x, before[x.Point.At])
				}
			}
			for _, p := range places(g) {
				now, _ := k.Frontier(p)
				if !chain.Leq(before[p], now) {
					t.Fatalf("%v: the frontier of %v goes from %v back to %v", g, p, before[p], now)
				}
				before[p] = now
			}
		}
		done(t, k, len(things) == 0)
	}
}
