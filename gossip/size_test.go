package gossip_test

import (
	"testing"

	"penstock/api"
)

// Lists of very many posts are taken from without going through what is left.
func TestManyPosts(t *testing.T) {
	const posts = 300000
	n := network(t, line(), api.MaxWorkers)
	for i := range posts {
		post(t, n, 3, moved(out(0, 0), at(uint64(i)), 1))
		post(t, n, 3, moved(out(0, 0), at(uint64(i)), -1))
	}
	for to := range api.MaxWorkers {
		if to == 3 {
			continue
		}
		waiting(t, n, 3, to, 2*posts)
	}
	for i := range posts {
		for _, to := range []int{0, 7} {
			deliver(t, n, 3, to, true)
			if i%1000 == 0 {
				holds(t, n, to, in(2, 0), at(uint64(i)))
			}
			deliver(t, n, 3, to, true)
			done(t, n, to, true)
		}
	}
	waiting(t, n, 3, 0, 0)
	waiting(t, n, 3, 1, 2*posts)
	deliver(t, n, 3, 7, false)
}

func TestOneLongPost(t *testing.T) {
	const points = 100000
	n := network(t, loop(1), 2)
	var l, back []api.Moved
	for i := range points {
		l = append(l, moved(out(3, 0), at(uint64(i), 7), 1))
		back = append(back, moved(out(3, 0), at(uint64(i), 7), -1))
	}
	post(t, n, 0, l...)
	post(t, n, 1, back...)
	done(t, n, 1, false)
	deliver(t, n, 1, 0, true)
	done(t, n, 0, true)
	holds(t, n, 1, in(2, 1))
	deliver(t, n, 0, 1, true)
	done(t, n, 1, true)
}

// As many workers as there may be, with a graph of as many nodes.
func TestGreatestGraph(t *testing.T) {
	g := graph(make([]api.Node, api.MaxNodes))
	for i := range g.Nodes {
		g.Nodes[i] = one(1, path(0, 1))
		g.Edges = append(g.Edges, edge(out(i, 0), in((i+1)%api.MaxNodes, 0)))
	}
	n := network(t, g, api.MaxWorkers)
	var want []api.Time
	for w := range api.MaxWorkers {
		post(t, n, w, moved(out(100*w, 0), at(uint64(w), 0), 1))
		want = append(want, at(uint64(w), uint32(api.MaxNodes-1-100*w)))
	}
	for w := range api.MaxWorkers {
		holds(t, n, w, in(0, 0), want[w])
	}
	deliverAll(t, n, api.MaxWorkers)
	for w := range api.MaxWorkers {
		holds(t, n, w, in(0, 0), want...)
	}
}
