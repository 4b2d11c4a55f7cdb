package flow_test

import (
	"math/rand/v2"
	"strconv"
	"testing"

	"penstock/api"
	"penstock/flow"
	"penstock/stamp"
)

const half = 1 << 31

// A plain model: all paths of all routes, none of which is left out. It ends where what is added is half of the bound or more (two of these are too much), or where paths that grow beyond a cap are given up.

func depthOf(g api.Graph, p api.Port) int {
	n := g.Nodes[p.Node]
	if p.Out && n.Ins == 1 && n.Outs == 1 && len(n.Inner) == 1 {
		return n.Depth - n.Inner[0].Path.Leave + len(n.Inner[0].Path.Enter)
	}
	return n.Depth
}

func keyOf(p api.Path) string {
	return strconv.Itoa(p.Leave) + "+" + strconv.Itoa(int(p.Add)) + stamp.Print(api.Time{Loops: p.Enter})
}

// reached is the paths of routes to each place, by their text forms; the route without steps is not among them.
type reached map[api.Port]map[string]api.Path

type end struct {
	at   api.Port
	path api.Path
}

// within says whether p does not grow beyond the cap.
func within(p api.Path, limit uint32) bool {
	for _, n := range p.Enter {
		if n > limit {
			return false
		}
	}
	return p.Add <= limit
}

func routes(g api.Graph, from api.Port, limit uint32) reached {
	all := reached{}
	work := []end{{at: from}}
	put := func(at api.Port, a, b api.Path) {
		p, e := stamp.Then(a, b)
		if e != api.OK || !within(p, limit) {
			return
		}
		if all[at] == nil {
			all[at] = map[string]api.Path{}
		}
		if _, found := all[at][keyOf(p)]; !found {
			all[at][keyOf(p)] = p
			work = append(work, end{at, p})
		}
	}
	for len(work) > 0 {
		x := work[len(work)-1]
		work = work[:len(work)-1]
		for _, e := range g.Edges {
			if e.From == x.at {
				put(e.To, x.path, api.Path{})
			}
		}
		for _, i := range g.Nodes[x.at.Node].Inner {
			if !x.at.Out && i.In == x.at.Port {
				put(out(x.at.Node, i.Out), x.path, i.Path)
			}
		}
	}
	return all
}

// closes is what Check should answer for a graph whose form is right.
func closes(g api.Graph, limit uint32) api.Errno {
	for _, x := range places(g) {
		if x.Out {
			continue
		}
		for _, p := range routes(g, x, limit)[x] {
			if stamp.PathLeq(p, api.Path{}, g.Nodes[x.Node].Depth) {
				return api.ErrFlowCycle
			}
		}
	}
	return api.OK
}

// least is those of paths for which no other one is PathLeq, in any order.
func least(l map[string]api.Path, depth int) map[string]api.Path {
	out := map[string]api.Path{}
	for k, p := range l {
		minimal := true
		for j, q := range l {
			minimal = minimal && (j == k || !stamp.PathLeq(q, p, depth))
		}
		if minimal {
			out[k] = p
		}
	}
	return out
}

// inOrder says whether l goes by Leave, then by Add, then by Enter, each once.
func inOrder(l []api.Path) bool {
	for i := 1; i < len(l); i++ {
		a, b := l[i-1], l[i]
		switch {
		case a.Leave != b.Leave:
			if a.Leave > b.Leave {
				return false
			}
		case a.Add != b.Add:
			if a.Add > b.Add {
				return false
			}
		case stamp.Cmp(api.Time{Loops: a.Enter}, api.Time{Loops: b.Enter}) >= 0:
			return false
		}
	}
	return true
}

// maker makes graphs by chance, the same ones each time.
type maker struct {
	*rand.Rand
	depth  int      // the greatest
	grows  []uint32 // what is added
	enters []uint32
}

func (m maker) path(depth, behind int) api.Path {
	p := api.Path{Leave: m.IntN(depth + 1)}
	if depth-p.Leave > behind {
		p.Leave = depth - behind
	}
	if p.Leave < depth {
		p.Add = m.grows[m.IntN(len(m.grows))]
	}
	for range behind - depth + p.Leave {
		p.Enter = append(p.Enter, m.enters[m.IntN(len(m.enters))])
	}
	return p
}

func (m maker) node() api.Node {
	depth := m.IntN(m.depth + 1)
	if m.IntN(2) == 0 {
		return one(depth, m.path(depth, m.IntN(m.depth+1)))
	}
	n := node(depth, 1+m.IntN(2), 1+m.IntN(2))
	for range 2 + m.IntN(2) {
		n.Inner = append(n.Inner, inner(m.IntN(n.Ins), m.IntN(n.Outs), m.path(depth, depth)))
	}
	return n
}

func (m maker) graph() api.Graph {
	var g api.Graph
	for range 1 + m.IntN(4) {
		g.Nodes = append(g.Nodes, m.node())
	}
	for _, from := range places(g) {
		for _, to := range places(g) {
			if from.Out && !to.Out && depthOf(g, from) == depthOf(g, to) && m.IntN(3) > 0 {
				g.Edges = append(g.Edges, edge(from, to))
			}
		}
	}
	m.Shuffle(len(g.Edges), func(i, k int) { g.Edges[i], g.Edges[k] = g.Edges[k], g.Edges[i] })
	return g
}

// sameAsModel holds what All answers for a graph against the model.
func sameAsModel(t *testing.T, g api.Graph, limit uint32) {
	t.Helper()
	leads, e := flow.All(g)
	if e != api.OK {
		t.Fatalf("All of %v is %v", g, e)
	}
	for _, from := range places(g) {
		all := routes(g, from, limit)
		for _, to := range places(g) {
			if to.Out {
				continue
			}
			if from == to {
				if all[to] == nil {
					all[to] = map[string]api.Path{}
				}
				all[to][keyOf(api.Path{})] = api.Path{}
			}
			var got []api.Path
			if len(leads) > 0 && leads[0].From == from && leads[0].To == to {
				got, leads = leads[0].Ways, leads[1:]
			}
			want := least(all[to], depthOf(g, from))
			fits := len(got) == len(want) && inOrder(got)
			for _, p := range got {
				_, found := want[keyOf(p)]
				fits = fits && found
			}
			if !fits {
				t.Fatalf("%v: from %v to %v there are %v, but All has %v", g, from, to, want, got)
			}
		}
	}
	if len(leads) > 0 {
		t.Fatalf("%v: All has also, or not in order, %v", g, leads)
	}
}

func play(t *testing.T, m maker, graphs int, limit uint32) {
	t.Helper()
	judged := map[api.Errno]int{}
	for range graphs {
		g := m.graph()
		want := closes(g, limit)
		judged[want]++
		if e := flow.Check(g); e != want {
			t.Fatalf("%v: Check is %v, want %v", g, e, want)
		}
		if want == api.OK {
			sameAsModel(t, g, limit)
		}
	}
	t.Log(judged)
	if judged[api.OK] < graphs/10 || judged[api.ErrFlowCycle] < graphs/10 {
		t.Errorf("too few of one kind: %v", judged)
	}
}

func TestGraphsByChance(t *testing.T) {
	play(t, maker{rand.New(rand.NewPCG(1, 1)), 1, []uint32{0, 1, 1, 2}, []uint32{0, 1, 2}}, 3000, 12)
	play(t, maker{rand.New(rand.NewPCG(2, 2)), 2, []uint32{0, 1, 1, 1}, []uint32{0, 1, 2}}, 3000, 8)
	play(t, maker{rand.New(rand.NewPCG(3, 3)), 3, []uint32{0, 1, 1, 1, 1}, []uint32{0, 1, 1, 2}}, 1000, 5)
}

// What is added is so much that twice is too much: then there are not many paths, and the model has all of them.
func TestGraphsByChanceThatGrowTooFar(t *testing.T) {
	for depth := 1; depth <= 3; depth++ {
		seed := uint64(10 + depth)
		play(t, maker{rand.New(rand.NewPCG(seed, seed)), depth, []uint32{0, half, half}, []uint32{0, half, half - 1}}, 4000, top)
		play(t, maker{rand.New(rand.NewPCG(seed, 0)), depth, []uint32{0, half, half, half, top}, []uint32{0, half - 1, half, top, top}}, 4000, top)
	}
}
