package gossip_test

import (
	"slices"
	"testing"

	"penstock/api"
	"penstock/chain"
	"penstock/flow"
	"penstock/gossip"
	"penstock/stamp"
)

// grows says whether each round of g increases every time: besides what changes nothing, no least path leads back to an input, so that all are behind it; and flow.Check has seen that none changes nothing.
func grows(g api.Graph) bool {
	if !valid(g) {
		return false
	}
	for _, p := range inputs(g) {
		if l, _ := flow.Ways(g, p, p); len(l) != 1 || l[0].Leave > 0 || l[0].Add > 0 || len(l[0].Enter) > 0 {
			return false
		}
	}
	return true
}

// loops is a loop in a loop, whose ways lead on from both; the inner one is entered twice.
func loops() api.Graph {
	return graph(nodes(
		node(0, 0, 2),
		one(0, path(0, 0, 0)),
		node(1, 2, 1, inner(0, 0, path(0, 0)), inner(1, 0, path(0, 0))),
		one(1, path(0, 0, 0)),
		node(2, 2, 2, inner(0, 0, path(0, 0)), inner(1, 0, path(0, 0)), inner(1, 1, path(0, 1))),
		one(2, path(0, 1)),
		one(2, path(1, 0)),
		one(1, path(0, 1)),
		one(1, path(1, 0)),
		node(0, 2, 0),
	),
		edge(out(0, 0), in(1, 0)), edge(out(1, 0), in(2, 0)), edge(out(2, 0), in(3, 0)), edge(out(3, 0), in(4, 0)),
		edge(out(4, 0), in(5, 0)), edge(out(5, 0), in(4, 1)), edge(out(4, 0), in(6, 0)), edge(out(4, 1), in(6, 0)), edge(out(6, 0), in(7, 0)),
		edge(out(7, 0), in(2, 1)), edge(out(6, 0), in(8, 0)), edge(out(8, 0), in(9, 0)), edge(out(0, 1), in(9, 1)))
}

// world is what is really there, and the workers who have heard of it.
type world struct {
	maker
	g       api.Graph
	net     *gossip.Net
	workers int
	things  []api.Point
	leads   []api.Lead
}

func worldOf(t *testing.T, m maker, g api.Graph) *world {
	t.Helper()
	w := &world{maker: m, g: g, workers: 2 + m.IntN(3)}
	w.net = network(t, g, w.workers)
	w.leads, _ = flow.All(g)
	for range 1 + m.IntN(4) {
		x := m.point(g)
		for range 1 + m.IntN(3) {
			w.things = append(w.things, x)
			post(t, w.net, m.IntN(w.workers), api.Moved{Point: x, Diff: 1})
		}
	}
	deliverAll(t, w.net, w.workers)
	return w
}

// steps is all points that a thing at x comes to next.
func (w *world) steps(x api.Point) []api.Point {
	var l []api.Point
	for _, to := range flow.Targets(w.g, x.At) {
		l = append(l, api.Point{At: to, Time: x.Time})
	}
	for _, i := range w.g.Nodes[x.At.Node].Inner {
		if after, e := stamp.Apply(i.Path, x.Time); !x.At.Out && i.In == x.At.Port && e == api.OK {
			l = append(l, api.Point{At: out(x.At.Node, i.Out), Time: after})
		}
	}
	return l
}

// some is points that a thing at x leads to, one step on or up to that many; one of them may be meant several times.
func (w *world) some(x api.Point, far int) []api.Point {
	var l []api.Point
	for _, y := range w.steps(x) {
		for range w.IntN(3) {
			if far > 1 && w.IntN(4) == 0 {
				l = append(l, w.some(y, far-1)...)
			} else {
				l = append(l, y)
			}
		}
	}
	return l
}

// move removes one thing or two, adds what they lead to, and lets a worker post it, in any order. What one of them leads to may be what another one is.
func (w *world) move(t *testing.T) {
	var l []api.Moved
	for range min(1+w.IntN(2), len(w.things)) {
		i := w.IntN(len(w.things))
		x := w.things[i]
		w.things = slices.Delete(w.things, i, i+1)
		l = append(l, api.Moved{Point: x, Diff: -1})
		next := w.some(x, 4)
		if len(w.things)+len(next) > 12 { // few are enough to see what is seen of them
			next = nil
		}
		w.things = append(w.things, next...)
		for _, y := range next {
			l = append(l, api.Moved{Point: y, Diff: 1})
		}
	}
	w.Shuffle(len(l), func(i, k int) { l[i], l[k] = l[k], l[i] })
	post(t, w.net, w.IntN(w.workers), l...)
}

func (w *world) hear(t *testing.T) {
	from, to := w.IntN(w.workers), w.IntN(w.workers)
	if from != to {
		deliver(t, w.net, from, to, w.net.Waiting(from, to) > 0)
	}
}

// safe holds the frontiers of all workers against what is really there.
func (w *world) safe(t *testing.T) {
	t.Helper()
	for k := range w.workers {
		fronts := map[api.Port][]api.Time{}
		for _, p := range inputs(w.g) {
			fronts[p], _ = w.net.Frontier(k, p)
		}
		for _, x := range w.things {
			for _, lead := range w.leads {
				if lead.From == x.At {
					w.behind(t, x, lead, k, fronts[lead.To])
				}
			}
		}
	}
}

func (w *world) behind(t *testing.T, x api.Point, lead api.Lead, worker int, front []api.Time) {
	t.Helper()
	for _, way := range lead.Ways {
		if after, e := stamp.Apply(way, x.Time); e == api.OK && !chain.Beyond(front, after) {
			t.Fatalf("%v: %v can reach %v at %v, but worker %d tells %v", w.g, x, lead.To, after, worker, front)
		}
	}
}

// play lets things move, and be heard of, until there are none, or for so many steps; often is how many deliveries come to a move.
func (w *world) play(t *testing.T, steps, often int) {
	t.Helper()
	w.safe(t)
	for range steps {
		if len(w.things) > 0 {
			w.move(t)
		}
		w.safe(t)
		for range w.IntN(2*often + 1) {
			w.hear(t)
			w.safe(t)
		}
	}
	deliverAll(t, w.net, w.workers)
	k := tracker(t, w.g)
	for _, x := range w.things {
		k.Update([]api.Moved{{Point: x, Diff: 1}})
	}
	sameAsOne(t, w.net, w.workers, w.g, k)
}

// However late a worker hears of what the others do, it never tells that something is over which is not.
func TestSafety(t *testing.T) {
	m := made(5)
	for i := range 120 {
		worldOf(t, m, loops()).play(t, 25, i%4)
		worldOf(t, m, loop(1)).play(t, 25, i%4)
		worldOf(t, m, m.graph(grows)).play(t, 15, i%4)
	}
}

// Two workers pass on a thing to and fro; a third one hears first what the one has done, then what the other one has.
func TestToAndFro(t *testing.T) {
	n := network(t, loop(1), 3)
	p := out(3, 0)
	post(t, n, 0, moved(p, at(0, 1), 1))
	deliverAll(t, n, 3)
	for i := range uint32(20) {
		w := int(i % 2)
		post(t, n, w, moved(p, at(0, i+2), 1), moved(p, at(0, i+1), -1))
		deliver(t, n, w, 1-w, true)
		holds(t, n, w, in(2, 1), at(0, i+2))
		holds(t, n, 1-w, in(2, 1), at(0, i+2))
		holds(t, n, 2, in(2, 1), at(0, 1))
	}
	for range 10 { // those of worker 1 alone: what they remove is not there yet
		deliver(t, n, 1, 2, true)
		holds(t, n, 2, in(2, 1), at(0, 1))
	}
	for i := range uint32(10) {
		deliver(t, n, 0, 2, true)
		holds(t, n, 2, in(2, 1), at(0, 2*i+3))
	}
	deliver(t, n, 0, 2, false)
	deliver(t, n, 1, 2, false)
}
