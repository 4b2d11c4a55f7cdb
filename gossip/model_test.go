package gossip_test

import (
	"math"
	"math/rand/v2"
	"slices"
	"testing"

	"penstock/api"
	"penstock/flow"
	"penstock/gossip"
	"penstock/track"
)

// places is all places of g.
func places(g api.Graph) []api.Port {
	var l []api.Port
	for i, n := range g.Nodes {
		for k := range n.Ins {
			l = append(l, in(i, k))
		}
		for k := range n.Outs {
			l = append(l, out(i, k))
		}
	}
	return l
}

func inputs(g api.Graph) []api.Port {
	return slices.DeleteFunc(places(g), func(p api.Port) bool { return p.Out })
}

func depthOf(g api.Graph, p api.Port) int {
	n := g.Nodes[p.Node]
	if p.Out && n.Ins == 1 && n.Outs == 1 && len(n.Inner) == 1 {
		return n.Depth - n.Inner[0].Path.Leave + len(n.Inner[0].Path.Enter)
	}
	return n.Depth
}

// maker makes graphs and times by chance, the same ones each time.
type maker struct{ *rand.Rand }

func made(seed uint64) maker { return maker{rand.New(rand.NewPCG(seed, seed))} }

func (m maker) path(depth, behind int) api.Path {
	p := api.Path{Leave: m.IntN(depth + 1)}
	if m.IntN(2) == 0 {
		p.Leave = 0
	}
	if depth-p.Leave > behind {
		p.Leave = depth - behind
	}
	if p.Leave < depth {
		p.Add = uint32(m.IntN(3))
	}
	for range behind - depth + p.Leave {
		p.Enter = append(p.Enter, uint32(m.IntN(3)))
	}
	return p
}

func (m maker) node() api.Node {
	depth := m.IntN(api.MaxLoops + 1)
	if m.IntN(2) == 0 {
		return one(depth, m.path(depth, m.IntN(api.MaxLoops+1)))
	}
	n := node(depth, 1+m.IntN(2), 1+m.IntN(2))
	for range 2 + m.IntN(2) {
		n.Inner = append(n.Inner, inner(m.IntN(n.Ins), m.IntN(n.Outs), m.path(depth, depth)))
	}
	return n
}

// graph is one for which may holds: each edge that breaks it is left out.
func (m maker) graph(may func(api.Graph) bool) api.Graph {
	var g api.Graph
	for range 3 + m.IntN(5) {
		g.Nodes = append(g.Nodes, m.node())
	}
	for _, from := range places(g) {
		for _, to := range inputs(g) {
			if !from.Out || depthOf(g, from) != depthOf(g, to) || m.IntN(3) == 0 {
				continue
			}
			g.Edges = append(g.Edges, edge(from, to))
			if !may(g) {
				g.Edges = g.Edges[:len(g.Edges)-1]
			}
		}
	}
	return g
}

func valid(g api.Graph) bool { return flow.Check(g) == api.OK }

func (m maker) point(g api.Graph) api.Point {
	l := places(g)
	p := l[m.IntN(len(l))]
	t := api.Time{Epoch: uint64(m.IntN(5))}
	for range depthOf(g, p) {
		t.Loops = append(t.Loops, uint32(m.IntN(5)))
	}
	return api.Point{At: p, Time: t}
}

// crowd is workers that each have a tracker, and lists of what they have not heard, on their own.
type crowd struct {
	g        api.Graph
	trackers []*track.Tracker
	waiting  [][][][]api.Moved // by from, and to
	all      *track.Tracker    // of all posts
}

func tracker(t *testing.T, g api.Graph) *track.Tracker {
	t.Helper()
	k, e := track.New(g)
	if e != api.OK {
		t.Fatalf("New(%v) = %v", g, e)
	}
	return k
}

func crowdOf(t *testing.T, g api.Graph, workers int) *crowd {
	c := &crowd{g: g, all: tracker(t, g)}
	for range workers {
		c.trackers = append(c.trackers, tracker(t, g))
		c.waiting = append(c.waiting, make([][][]api.Moved, workers))
	}
	return c
}

func (c *crowd) post(w int, l []api.Moved) {
	c.all.Update(l)
	c.trackers[w].Update(l)
	for to := range c.trackers {
		c.waiting[w][to] = append(c.waiting[w][to], l)
	}
	c.waiting[w][w] = nil
}

func (c *crowd) deliver(from, to int) bool {
	l := c.waiting[from][to]
	if len(l) == 0 {
		return false
	}
	c.trackers[to].Update(l[0])
	c.waiting[from][to] = l[1:]
	return true
}

// sameAsCrowd holds all that a net answers against the model.
func sameAsCrowd(t *testing.T, n *gossip.Net, c *crowd) {
	t.Helper()
	for w, k := range c.trackers {
		for _, p := range inputs(c.g) {
			want, _ := k.Frontier(p)
			holds(t, n, w, p, want...)
		}
		done(t, n, w, k.Done())
		for to := range c.trackers {
			waiting(t, n, w, to, len(c.waiting[w][to]))
		}
	}
}

// sameAsOne holds what all workers answer against one tracker.
func sameAsOne(t *testing.T, n *gossip.Net, workers int, g api.Graph, k *track.Tracker) {
	t.Helper()
	for w := range workers {
		for _, p := range inputs(g) {
			want, _ := k.Frontier(p)
			holds(t, n, w, p, want...)
		}
		done(t, n, w, k.Done())
	}
}

// posted is a few points with any counts, some of them near the end of 64 bits.
func (m maker) posted(g api.Graph) []api.Moved {
	var l []api.Moved
	for range m.IntN(4) {
		diff := int64(m.IntN(5) - 2)
		switch m.IntN(8) {
		case 0:
			diff = math.MaxInt64
		case 1:
			diff = math.MinInt64
		}
		l = append(l, api.Moved{Point: m.point(g), Diff: diff})
	}
	return l
}

// Posts of anything, heard in any order: each worker tells what a tracker tells of the posts that it knows; in the end all tell the same.
func TestNetsByChance(t *testing.T) {
	m := made(1)
	for range 150 {
		g, workers := m.graph(valid), 1+m.IntN(api.MaxWorkers)
		n, c := network(t, g, workers), crowdOf(t, g, workers)
		for range 40 {
			if from, to := m.IntN(workers), m.IntN(workers); from != to && m.IntN(3) > 0 {
				deliver(t, n, from, to, c.deliver(from, to))
			} else {
				l := m.posted(g)
				post(t, n, from, l...)
				c.post(from, l)
			}
		}
		sameAsCrowd(t, n, c)
		for range 40 * workers {
			if from, to := m.IntN(workers), m.IntN(workers); from != to {
				deliver(t, n, from, to, c.deliver(from, to))
			}
		}
		sameAsCrowd(t, n, c)
		deliverAll(t, n, workers)
		sameAsOne(t, n, workers, g, c.all)
	}
}

// After each step of a small net.
func TestEachStepByChance(t *testing.T) {
	m := made(2)
	for range 40 {
		g, workers := m.graph(valid), 2+m.IntN(2)
		n, c := network(t, g, workers), crowdOf(t, g, workers)
		for range 60 {
			if from, to := m.IntN(workers), m.IntN(workers); from != to {
				deliver(t, n, from, to, c.deliver(from, to))
			} else {
				l := m.posted(g)
				post(t, n, from, l...)
				c.post(from, l)
			}
			sameAsCrowd(t, n, c)
		}
	}
}

// It is all the same which worker posts, and how the posts are divided.
func TestDivisionOfPosts(t *testing.T) {
	m := made(3)
	for range 50 {
		g, workers := m.graph(valid), 1+m.IntN(api.MaxWorkers)
		n, k := network(t, g, workers), tracker(t, g)
		for range 10 {
			l := m.posted(g)
			k.Update(l)
			for len(l) > 0 {
				some := 1 + m.IntN(len(l))
				post(t, n, m.IntN(workers), l[:some]...)
				l = l[some:]
			}
		}
		deliverAll(t, n, workers)
		sameAsOne(t, n, workers, g, k)
	}
}

// What is not of the graph is refused by each worker, as by its tracker.
func TestRefusalsByChance(t *testing.T) {
	m := made(4)
	for range 100 {
		g, other := m.graph(valid), m.graph(valid)
		n, c := network(t, g, 2), crowdOf(t, g, 2)
		for range 20 {
			w, l := m.IntN(2), slices.Concat(m.posted(g), m.posted(other), m.posted(g))
			want := tracker(t, g).Update(l)
			if e := n.Post(w, l); e != want {
				t.Fatalf("%v: Post(%v) = %v, want %v", g, l, e, want)
			}
			if want == api.OK {
				c.post(w, l)
			}
		}
		sameAsCrowd(t, n, c)
		deliverAll(t, n, 2)
		sameAsOne(t, n, 2, g, c.all)
	}
}
