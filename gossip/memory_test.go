package gossip_test

import (
	"runtime"
	"slices"
	"testing"

	"penstock/api"
)

// listed is points of loop; it, and their counters, have more behind their ends, which is no part of them.
func listed() []api.Moved {
	return []api.Moved{
		moved(out(0, 0), api.Time{Epoch: 3, Loops: []uint32{7, 8}[:0]}, 1),
		moved(out(2, 0), api.Time{Epoch: 2, Loops: []uint32{4, 5, 6}[:1]}, 1),
		moved(in(2, 1), at(1, 9), 1),
		moved(in(9, 9), at(7), 9),
	}[:3]
}

func spoilCounters(l []uint32) {
	for i := range l[:cap(l)] {
		l[:cap(l)][i] = 999
	}
}

func spoil(l []api.Moved) {
	for i, x := range l[:cap(l)] {
		spoilCounters(x.Point.Time.Loops)
		l[:cap(l)][i] = moved(in(5, 0), at(0), 5)
	}
}

func spoilTimes(l []api.Time) {
	for i, t := range l[:cap(l)] {
		spoilCounters(t.Loops)
		l[:cap(l)][i] = at(999, 9, 9)
	}
}

func TestArgumentsAreAsTheyWere(t *testing.T) {
	n := network(t, loop(1), 3)
	l := listed()
	post(t, n, 0, l...)
	if e := n.Post(0, slices.Concat(l, []api.Moved{moved(in(9, 9), at(1), 1)})); e != api.ErrTrackForm {
		t.Error(e)
	}
	if e := n.Post(3, l); e != api.ErrGossipForm {
		t.Error(e)
	}
	deliverAll(t, n, 3)
	holds(t, n, 1, in(2, 1), at(1, 9), at(2, 5), at(3, 1))
	equal := func(a, b api.Moved) bool {
		k, m := a.Point.Time.Loops, b.Point.Time.Loops
		return a.Point.At == b.Point.At && a.Diff == b.Diff && a.Point.Time.Epoch == b.Point.Time.Epoch && slices.Equal(k[:cap(k)], m[:cap(m)])
	}
	if want := listed(); !slices.EqualFunc(l[:cap(l)], want[:cap(want)], equal) {
		t.Errorf("%v has changed to %v", want[:cap(want)], l[:cap(l)])
	}
}

// What waits is as it was posted, whatever becomes of the list, and of the graph.
func TestArgumentsAreNotRetained(t *testing.T) {
	g := loop(1)
	n := network(t, g, 3)
	l := listed()
	if e := n.Post(0, l); e != api.OK {
		t.Fatal(e)
	}
	spoil(l)
	for i := range g.Nodes {
		for k := range g.Nodes[i].Inner {
			spoilCounters(g.Nodes[i].Inner[k].Path.Enter)
			g.Nodes[i].Inner[k] = inner(5, 5, path(5, 5, 5))
		}
		g.Nodes[i] = node(5, 5, 5)
	}
	for i := range g.Edges {
		g.Edges[i] = edge(in(5, 5), in(5, 5))
	}
	deliver(t, n, 0, 1, true)
	deliver(t, n, 0, 2, true)
	for w := range 3 {
		holds(t, n, w, in(1, 0), at(3))
		holds(t, n, w, in(2, 0), at(3, 0))
		holds(t, n, w, in(2, 1), at(1, 9), at(2, 5), at(3, 1))
		holds(t, n, w, in(5, 0), at(1))
		post(t, n, w, moved(out(0, 0), at(3), -1), moved(out(2, 0), at(2, 4), -1), moved(in(2, 1), at(1, 9), -1))
		done(t, n, w, true)
	}
}

// One list, filled anew for each post.
func TestOneListForAllPosts(t *testing.T) {
	n := network(t, loop(1), 2)
	loops := []uint32{0}
	l := []api.Moved{moved(out(2, 0), api.Time{Loops: loops}, 1)}
	for i := range 10 {
		loops[0], l[0].Point.Time.Epoch = uint32(20-i), uint64(i)
		if e := n.Post(0, l); e != api.OK {
			t.Fatal(e)
		}
	}
	var want []api.Time
	for i := range 10 {
		deliver(t, n, 0, 1, true)
		want = append(want, at(uint64(i), uint32(20-i)))
		holds(t, n, 1, in(3, 0), want...)
	}
	holds(t, n, 0, in(3, 0), want...)
}

func TestFrontiersAreNewMemory(t *testing.T) {
	n := network(t, loop(1), 2)
	post(t, n, 0, listed()...)
	deliver(t, n, 0, 1, true)
	want := []api.Time{at(1, 9), at(2, 5), at(3, 1)}
	for range 3 {
		mine, _ := n.Frontier(0, in(2, 1))
		other, _ := n.Frontier(1, in(2, 1))
		again, _ := n.Frontier(1, in(2, 1))
		spoilTimes(mine)
		if !same(other, want) {
			t.Fatal("the frontiers of two workers share memory")
		}
		spoilTimes(other)
		if !same(again, want) {
			t.Fatal("a frontier shares memory with the one before")
		}
		for i := range again {
			spoilCounters(again[i].Loops)
			for _, x := range again[i+1:] {
				if x.Loops[0] == 999 {
					t.Fatal("the times of a frontier share memory")
				}
			}
		}
		for w := range 2 {
			holds(t, n, w, in(2, 1), want...)
		}
	}
}

func heap() uint64 {
	var m runtime.MemStats
	runtime.GC()
	runtime.ReadMemStats(&m)
	return m.HeapAlloc
}

// Posts that all have heard are not kept: neither when all lists are empty, nor while a few posts go on waiting.
func TestWhatWasHeardIsNotKept(t *testing.T) {
	const size = 1000
	long := make([]api.Moved, 0, 2*size)
	for i := range size {
		long = append(long, moved(in(2, 1), at(1, uint32(i)), 1), moved(in(2, 1), at(1, uint32(i)), -1))
	}
	for _, left := range []int{0, 2} {
		n := network(t, loop(1), 3)
		for range left {
			post(t, n, 0, long...)
		}
		before := heap()
		for range 100 {
			post(t, n, 0, long...)
			deliver(t, n, 0, 1, true)
			deliver(t, n, 0, 2, true)
		}
		if after := heap(); after > before+20*size*100 {
			t.Errorf("with %d waiting, the heap grew from %d to %d", left, before, after)
		}
		waiting(t, n, 0, 1, left)
		waiting(t, n, 0, 2, left)
	}
	n := network(t, loop(1), 3)
	before := heap()
	for range 100 {
		post(t, n, 0, long...)
	}
	for range 99 {
		deliver(t, n, 0, 1, true)
		deliver(t, n, 0, 2, true)
	}
	if after := heap(); after > before+20*size*100 {
		t.Errorf("with one of many waiting, the heap grew from %d to %d", before, after)
	}
	waiting(t, n, 0, 1, 1)
}

// A list that was very long is not kept when it is empty.
func TestEmptyListsAreNotKept(t *testing.T) {
	const posts = 200000
	n := network(t, line(), 2)
	before := heap()
	for range posts {
		post(t, n, 0)
	}
	for range posts {
		deliver(t, n, 0, 1, true)
	}
	if after := heap(); after > before+4*posts {
		t.Errorf("the heap grew from %d to %d", before, after)
	}
	waiting(t, n, 0, 1, 0)
}
