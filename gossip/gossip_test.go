package gossip_test

import (
	"math"
	"slices"
	"testing"

	"penstock/api"
	"penstock/gossip"
	"penstock/stamp"
)

const top = math.MaxUint32

func path(leave int, add uint32, enter ...uint32) api.Path {
	return api.Path{Leave: leave, Add: add, Enter: enter}
}

func in(node, port int) api.Port { return api.Port{Node: node, Port: port} }

func out(node, port int) api.Port { return api.Port{Node: node, Out: true, Port: port} }

func edge(from, to api.Port) api.Edge { return api.Edge{From: from, To: to} }

func inner(in, out int, p api.Path) api.Inner { return api.Inner{In: in, Out: out, Path: p} }

func node(depth, ins, outs int, l ...api.Inner) api.Node {
	return api.Node{Ins: ins, Outs: outs, Depth: depth, Inner: l}
}

// one is a node with one input, one output and one inner path.
func one(depth int, p api.Path) api.Node { return node(depth, 1, 1, inner(0, 0, p)) }

func graph(nodes []api.Node, edges ...api.Edge) api.Graph {
	return api.Graph{Nodes: nodes, Edges: edges}
}

func nodes(l ...api.Node) []api.Node { return l }

// line is a source, a passing node and an end.
func line() api.Graph {
	return graph(nodes(node(0, 0, 1), one(0, path(0, 0)), node(0, 1, 0)), edge(out(0, 0), in(1, 0)), edge(out(1, 0), in(2, 0)))
}

// loop is the second example of chapter 6: source, entering node, node in the loop, adding node, leaving node, end.
func loop(add uint32) api.Graph {
	return graph(nodes(
		node(0, 0, 1),
		one(0, path(0, 0, 0)),
		node(1, 2, 1, inner(0, 0, path(0, 0)), inner(1, 0, path(0, 0))),
		one(1, path(0, add)),
		one(1, path(1, 0)),
		node(0, 1, 0),
	),
		edge(out(0, 0), in(1, 0)), edge(out(1, 0), in(2, 0)), edge(out(2, 0), in(3, 0)), edge(out(3, 0), in(2, 1)),
		edge(out(2, 0), in(4, 0)), edge(out(4, 0), in(5, 0)))
}

func at(epoch uint64, loops ...uint32) api.Time { return api.Time{Epoch: epoch, Loops: loops} }

func moved(p api.Port, t api.Time, diff int64) api.Moved {
	return api.Moved{Point: api.Point{At: p, Time: t}, Diff: diff}
}

func network(t *testing.T, g api.Graph, workers int) *gossip.Net {
	t.Helper()
	n, e := gossip.New(g, workers)
	if e != api.OK {
		t.Fatalf("New(%v, %d) = %v", g, workers, e)
	}
	return n
}

func post(t *testing.T, n *gossip.Net, w int, l ...api.Moved) {
	t.Helper()
	if e := n.Post(w, l); e != api.OK {
		t.Fatalf("Post(%d, %v) = %v", w, l, e)
	}
}

// deliver says what Deliver should answer.
func deliver(t *testing.T, n *gossip.Net, from, to int, want bool) {
	t.Helper()
	if got, e := n.Deliver(from, to); e != api.OK || got != want {
		t.Errorf("Deliver(%d, %d) = %v, %v, want %v", from, to, got, e, want)
	}
}

// deliverAll lets each of the workers hear everything.
func deliverAll(t *testing.T, n *gossip.Net, workers int) {
	t.Helper()
	for from := range workers {
		for to := range workers {
			for from != to && n.Waiting(from, to) > 0 {
				deliver(t, n, from, to, true)
			}
		}
	}
}

func waiting(t *testing.T, n *gossip.Net, from, to, want int) {
	t.Helper()
	if got := n.Waiting(from, to); got != want {
		t.Errorf("Waiting(%d, %d) = %d, want %d", from, to, got, want)
	}
}

func same(a, b []api.Time) bool {
	return slices.EqualFunc(a, b, func(x, y api.Time) bool { return stamp.Cmp(x, y) == 0 })
}

// holds says what a worker should answer for an input.
func holds(t *testing.T, n *gossip.Net, w int, p api.Port, want ...api.Time) {
	t.Helper()
	if got, e := n.Frontier(w, p); e != api.OK || !same(got, want) {
		t.Errorf("Frontier(%d, %v) = %v, %v, want %v", w, p, got, e, want)
	}
}

func done(t *testing.T, n *gossip.Net, w int, want bool) {
	t.Helper()
	if n.Done(w) != want {
		t.Errorf("Done(%d) is %v", w, !want)
	}
}

// The first example.
func TestTwoWorkers(t *testing.T) {
	n := network(t, line(), 2)
	done(t, n, 0, true)
	done(t, n, 1, true)
	deliver(t, n, 0, 1, false)
	post(t, n, 0, moved(out(0, 0), at(3), 1))
	holds(t, n, 0, in(1, 0), at(3))
	holds(t, n, 1, in(1, 0))
	done(t, n, 0, false)
	done(t, n, 1, true)
	waiting(t, n, 0, 1, 1)
	waiting(t, n, 1, 0, 0)
	deliver(t, n, 1, 0, false)
	deliver(t, n, 0, 1, true)
	holds(t, n, 0, in(1, 0), at(3))
	holds(t, n, 1, in(1, 0), at(3))
	holds(t, n, 1, in(2, 0), at(3))
	done(t, n, 1, false)
	waiting(t, n, 0, 1, 0)
	deliver(t, n, 0, 1, false)
	holds(t, n, 1, in(1, 0), at(3))
}

// Who has heard of a thing that moves around a loop, and who has not.
func TestLoop(t *testing.T) {
	n := network(t, loop(1), 3)
	post(t, n, 2, moved(out(0, 0), at(3), 1))
	deliver(t, n, 2, 0, true)
	holds(t, n, 0, in(2, 1), at(3, 1))
	holds(t, n, 1, in(2, 1))
	holds(t, n, 2, in(2, 1), at(3, 1))
	post(t, n, 0, moved(out(0, 0), at(3), -1), moved(in(3, 0), at(3, 0), 1))
	post(t, n, 0, moved(in(3, 0), at(3, 0), -1), moved(in(2, 1), at(3, 1), 1))
	holds(t, n, 0, in(2, 0))
	holds(t, n, 0, in(2, 1), at(3, 1))
	holds(t, n, 0, in(3, 0), at(3, 1))
	deliver(t, n, 0, 2, true)
	holds(t, n, 2, in(2, 0))
	holds(t, n, 2, in(3, 0), at(3, 0))
	deliver(t, n, 0, 2, true)
	holds(t, n, 2, in(3, 0), at(3, 1))
	holds(t, n, 2, in(5, 0), at(3))

	// Worker 1 hears of what has gone before it hears that it was there.
	deliver(t, n, 0, 1, true)
	holds(t, n, 1, in(2, 0))
	holds(t, n, 1, in(3, 0), at(3, 0))
	done(t, n, 1, false)
	post(t, n, 2, moved(in(2, 1), at(3, 1), -1))
	done(t, n, 2, true)
	deliver(t, n, 0, 1, true)
	holds(t, n, 1, in(3, 0), at(3, 1))
	deliver(t, n, 2, 1, true)
	holds(t, n, 1, in(2, 0))
	holds(t, n, 1, in(3, 0), at(3, 1))
	done(t, n, 1, false)
	deliver(t, n, 2, 1, true)
	holds(t, n, 1, in(3, 0))
	done(t, n, 1, true)
	done(t, n, 0, false)
	deliver(t, n, 2, 0, true)
	done(t, n, 0, true)
	for from := range 3 {
		for to := range 3 {
			waiting(t, n, from, to, 0)
		}
	}
}

// Each other worker hears each post once, the first one first, whatever the others have heard.
func TestPostsWaitInOrder(t *testing.T) {
	const workers, posts = 4, 5
	n := network(t, line(), workers)
	for i := range posts {
		post(t, n, 2, moved(out(0, 0), at(uint64(9-i)), 1))
		for to := range workers {
			want := i + 1
			if to == 2 {
				want = 0
			}
			waiting(t, n, 2, to, want)
			waiting(t, n, to, 2, 0)
		}
	}
	holds(t, n, 2, in(1, 0), at(5))
	for i := range posts {
		holds(t, n, 0, in(1, 0), firstOf(i)...)
		deliver(t, n, 2, 0, true)
		waiting(t, n, 2, 0, posts-1-i)
		waiting(t, n, 2, 1, posts)
		waiting(t, n, 2, 3, posts)
		holds(t, n, 0, in(1, 0), at(uint64(9-i)))
		holds(t, n, 1, in(1, 0))
	}
	deliver(t, n, 2, 0, false)
	for i := range posts {
		deliver(t, n, 2, 3, true)
		holds(t, n, 3, in(1, 0), at(uint64(9-i)))
		holds(t, n, 2, in(1, 0), at(5))
	}
	waiting(t, n, 2, 1, posts)
}

// firstOf is the frontier after so many posts of 9, 8, ..
func firstOf(posts int) []api.Time {
	if posts == 0 {
		return nil
	}
	return []api.Time{at(uint64(10 - posts))}
}

// What comes while others wait is behind them.
func TestPostsBetweenDeliveries(t *testing.T) {
	n := network(t, line(), 2)
	next, heard := uint64(0), uint64(0)
	for turn := range 50 {
		for range turn%4 + 1 {
			post(t, n, 0, moved(out(0, 0), at(next), 1))
			next++
		}
		for range turn % 5 {
			more := n.Waiting(0, 1) > 0
			deliver(t, n, 0, 1, more)
			if !more {
				break
			}
			holds(t, n, 1, in(1, 0), at(heard))
			post(t, n, 1, moved(out(0, 0), at(heard), -1)) // so that the next one is the least
			heard++
		}
		waiting(t, n, 0, 1, int(next-heard))
		waiting(t, n, 1, 0, int(heard))
	}
	deliverAll(t, n, 2)
	holds(t, n, 0, in(2, 0), at(heard))
	holds(t, n, 1, in(2, 0), at(heard))
}

// A post of nothing waits like any other.
func TestPostsOfNothing(t *testing.T) {
	n := network(t, line(), 2)
	post(t, n, 0)
	post(t, n, 0, moved(out(0, 0), at(1), 1))
	post(t, n, 0, []api.Moved{}...)
	post(t, n, 0, moved(out(0, 0), at(1), 0))
	waiting(t, n, 0, 1, 4)
	for i := range 4 {
		done(t, n, 1, i < 2)
		deliver(t, n, 0, 1, true)
		waiting(t, n, 0, 1, 3-i)
	}
	deliver(t, n, 0, 1, false)
	holds(t, n, 1, in(1, 0), at(1))
}

func TestOneWorker(t *testing.T) {
	n := network(t, loop(1), 1)
	post(t, n, 0, moved(out(0, 0), at(3), 1))
	holds(t, n, 0, in(2, 1), at(3, 1))
	waiting(t, n, 0, 0, 0)
	post(t, n, 0, moved(out(0, 0), at(3), -1))
	done(t, n, 0, true)
	for _, to := range []int{-1, 0, 1} {
		if ok, e := n.Deliver(0, to); ok || e != api.ErrGossipForm {
			t.Errorf("Deliver(0, %d) = %v, %v", to, ok, e)
		}
	}
}

// Counts are those of track: below 0, and around the end of 64 bits.
func TestCounts(t *testing.T) {
	n := network(t, line(), 3)
	p := out(0, 0)
	post(t, n, 0, moved(p, at(1), math.MaxInt64))
	post(t, n, 1, moved(p, at(1), 1))
	deliver(t, n, 0, 2, true)
	holds(t, n, 2, in(1, 0), at(1))
	deliver(t, n, 1, 2, true)
	holds(t, n, 2, in(1, 0)) // the least number there is
	done(t, n, 2, false)
	post(t, n, 2, moved(p, at(1), math.MinInt64))
	done(t, n, 2, true)
	deliver(t, n, 2, 1, true)
	holds(t, n, 1, in(1, 0))
	done(t, n, 1, false)
	deliverAll(t, n, 3)
	for w := range 3 {
		done(t, n, w, true)
	}

	// Gone before it was there.
	post(t, n, 0, moved(p, at(2), 1))
	post(t, n, 1, moved(p, at(2), -1))
	deliver(t, n, 1, 2, true)
	holds(t, n, 2, in(1, 0))
	done(t, n, 2, false)
	deliver(t, n, 0, 2, true)
	holds(t, n, 2, in(1, 0))
	done(t, n, 2, true)
}

// The second example, and the others of New's errors, in their order.
func TestNew(t *testing.T) {
	far := graph(nodes(node(4, 0, 0)))
	for _, x := range []struct {
		g       api.Graph
		workers int
		want    api.Errno
	}{
		{line(), 0, api.ErrGossipForm},
		{line(), 9, api.ErrGossipForm},
		{line(), -1, api.ErrGossipForm},
		{line(), math.MaxInt, api.ErrGossipForm},
		{line(), math.MinInt, api.ErrGossipForm},
		{line(), 1, api.OK},
		{line(), 8, api.OK},
		{graph(nil), 8, api.OK},
		{loop(1), 3, api.OK},
		{loop(0), 3, api.ErrFlowCycle},
		{loop(0), 1, api.ErrFlowCycle},
		{loop(0), 9, api.ErrGossipForm},
		{loop(0), 0, api.ErrGossipForm},
		{far, 1, api.ErrFlowForm},
		{far, 8, api.ErrFlowForm},
		{far, 9, api.ErrGossipForm},
	} {
		n, e := gossip.New(x.g, x.workers)
		if e != x.want || (n != nil) != (e == api.OK) {
			t.Errorf("New(%v, %d) = %v, %v, want %v", x.g, x.workers, n, e, x.want)
		}
	}
	for _, workers := range []int{1, 8} {
		n := network(t, line(), workers)
		post(t, n, workers-1)
		if e := n.Post(workers, nil); e != api.ErrGossipForm {
			t.Errorf("Post(%d) of %d workers: %v", workers, workers, e)
		}
	}
}

func strangers(workers int) []int {
	return []int{-1, workers, workers + 1, 8, 9, math.MinInt, math.MaxInt}
}

// No such worker: that is told before what else is wrong, and nothing changes.
func TestNoSuchWorker(t *testing.T) {
	const workers = 3
	n := network(t, line(), workers)
	post(t, n, 0, moved(out(0, 0), at(1), 1))
	good, bad := moved(out(0, 0), at(0), 1), moved(out(9, 0), at(0), 1)
	for _, w := range strangers(workers) {
		for _, l := range [][]api.Moved{nil, {good}, {bad}, {good, bad}} {
			if e := n.Post(w, l); e != api.ErrGossipForm {
				t.Errorf("Post(%d, %v) = %v", w, l, e)
			}
		}
		for _, p := range []api.Port{in(1, 0), in(9, 0), out(0, 0)} {
			if l, e := n.Frontier(w, p); e != api.ErrGossipForm || len(l) > 0 {
				t.Errorf("Frontier(%d, %v) = %v, %v", w, p, l, e)
			}
		}
		done(t, n, w, false)
		for _, other := range append(strangers(workers), 0, 1, 2) {
			noPair(t, n, w, other)
			noPair(t, n, other, w)
		}
	}
	for w := range workers {
		noPair(t, n, w, w)
	}
	waiting(t, n, 0, 1, 1)
	waiting(t, n, 0, 2, 1)
	deliverAll(t, n, workers)
	for w := range workers {
		holds(t, n, w, in(1, 0), at(1))
		post(t, n, w)
	}
}

func noPair(t *testing.T, n *gossip.Net, from, to int) {
	t.Helper()
	if ok, e := n.Deliver(from, to); ok || e != api.ErrGossipForm {
		t.Errorf("Deliver(%d, %d) = %v, %v", from, to, ok, e)
	}
	waiting(t, n, from, to, 0)
}

// What the tracker refuses changes nothing, and nobody hears of it.
func TestPostsThatAreRefused(t *testing.T) {
	n := network(t, loop(1), 3)
	good := moved(out(0, 0), at(1), 1)
	for _, p := range []api.Point{
		{At: out(0, 0), Time: at(0, 0)}, {At: out(1, 0), Time: at(0)}, {At: in(2, 0), Time: at(0, 1, 2)}, {At: in(0, 0), Time: at(0)},
		{At: out(5, 0), Time: at(0)}, {At: in(6, 0), Time: at(0)}, {At: in(-1, 0), Time: at(0)}, {At: out(0, 0), Time: at(api.MaxTime + 1)},
	} {
		bad := api.Moved{Point: p, Diff: 1}
		for _, l := range [][]api.Moved{{bad}, {good, bad}, {bad, good}} {
			if e := n.Post(1, l); e != api.ErrTrackForm {
				t.Errorf("Post(1, %v) = %v", l, e)
			}
		}
	}
	for w := range 3 {
		done(t, n, w, true)
		waiting(t, n, 1, w, 0)
	}
	deliver(t, n, 1, 0, false)
	post(t, n, 1, good)
	waiting(t, n, 1, 0, 1)
	if e := n.Post(1, []api.Moved{moved(out(0, 0), at(1), -1), moved(in(9, 9), at(1), 1)}); e != api.ErrTrackForm {
		t.Error(e)
	}
	waiting(t, n, 1, 0, 1)
	deliver(t, n, 1, 0, true)
	holds(t, n, 0, in(2, 1), at(1, 1))
	holds(t, n, 1, in(2, 1), at(1, 1))
}

// The greatest epoch is taken and told.
func TestGreatestEpoch(t *testing.T) {
	n := network(t, loop(1), 2)
	post(t, n, 0, moved(out(0, 0), at(api.MaxTime), 1), moved(out(3, 0), at(api.MaxTime, top), 1))
	deliver(t, n, 0, 1, true)
	holds(t, n, 1, in(2, 0), at(api.MaxTime, 0))
	holds(t, n, 1, in(2, 1), at(api.MaxTime, 1))
	post(t, n, 0, moved(out(0, 0), at(api.MaxTime), -1))
	deliver(t, n, 0, 1, true)
	holds(t, n, 1, in(2, 1), at(api.MaxTime, top))
}

func TestFrontierOfNoInput(t *testing.T) {
	n := network(t, loop(1), 2)
	post(t, n, 0, moved(out(0, 0), at(3), 1))
	for _, p := range []api.Port{out(0, 0), out(2, 0), in(0, 0), in(2, 2), in(6, 0), in(-1, 0), in(1, -1), out(9, 9)} {
		for w := range 2 {
			if l, e := n.Frontier(w, p); e != api.ErrTrackForm || len(l) > 0 {
				t.Errorf("Frontier(%d, %v) = %v, %v", w, p, l, e)
			}
		}
	}
}

// What is told in one net is not heard in another one, even of the same graph.
func TestNetsAreIndependent(t *testing.T) {
	g := loop(1)
	a, b := network(t, g, 2), network(t, g, 2)
	post(t, a, 0, moved(out(0, 0), at(3), 1))
	waiting(t, b, 0, 1, 0)
	deliver(t, b, 0, 1, false)
	for w := range 2 {
		done(t, b, w, true)
	}
	post(t, b, 0, moved(out(0, 0), at(5), 1))
	deliver(t, a, 0, 1, true)
	deliver(t, b, 0, 1, true)
	holds(t, a, 1, in(2, 1), at(3, 1))
	holds(t, b, 1, in(2, 1), at(5, 1))
}
