package chain_test

import (
	"math"
	"slices"
	"testing"

	"penstock/api"
	"penstock/chain"
)

const (
	top   = math.MaxUint32
	ahead = math.MaxUint64
)

func at(epoch uint64, loops ...uint32) api.Time { return api.Time{Epoch: epoch, Loops: loops} }

func list(l ...api.Time) []api.Time { return l }

// same says whether two times are the same; nil is the same as no counters.
func same(a, b api.Time) bool { return a.Epoch == b.Epoch && slices.Equal(a.Loops, b.Loops) }

func sameList(a, b []api.Time) bool { return slices.EqualFunc(a, b, same) }

func TestOf(t *testing.T) {
	for _, x := range []struct{ l, want []api.Time }{
		{list(at(3, 1), at(2, 5), at(3, 2), at(3, 1)), list(at(2, 5), at(3, 1))},
		{nil, nil},
		{list(), nil},
		{list(at(0)), list(at(0))},
		{list(at(5), at(3), at(4)), list(at(3))},
		{list(at(3), at(3), at(3)), list(at(3))},
		{list(at(3, 1), at(3, 1), at(2, 1), at(2, 1)), list(at(2, 1))},

		// None is Leq another one.
		{list(at(3, 1), at(2, 2), at(1, 3)), list(at(1, 3), at(2, 2), at(3, 1))},
		{list(at(1, 0, 2), at(1, 2, 0), at(1, 1, 1)), list(at(1, 0, 2), at(1, 1, 1), at(1, 2, 0))},
		{list(at(0, 0, 0, 1), at(0, 0, 1, 0), at(0, 1, 0, 0), at(1, 0, 0, 0)), list(at(0, 0, 0, 1), at(0, 0, 1, 0), at(0, 1, 0, 0), at(1, 0, 0, 0))},

		// One goes, wherever what is Leq it stands; one takes the place of several.
		{list(at(1, 3), at(3, 1), at(2, 2), at(1, 1)), list(at(1, 1))},
		{list(at(1, 1), at(1, 3), at(3, 1), at(2, 2)), list(at(1, 1))},
		{list(at(1, 3), at(2, 2), at(3, 1), at(2, 0)), list(at(1, 3), at(2, 0))},
		{list(at(2, 0), at(3, 1), at(1, 3), at(2, 2)), list(at(1, 3), at(2, 0))},

		// Times of different depths have nothing to do with one another.
		{list(at(0, 0), at(9)), list(at(9), at(0, 0))},
		{list(at(1, 0, 0, 0), at(2, 0, 0), at(3, 0), at(4)), list(at(4), at(3, 0), at(2, 0, 0), at(1, 0, 0, 0))},
		{list(at(1, 1), at(5), at(0, 2), at(4), at(2, 2), at(4, 4)), list(at(4), at(0, 2), at(1, 1))},
		{list(at(7), api.Time{Epoch: 7, Loops: []uint32{}}), list(at(7))},

		// Any times: beyond all bounds of Check.
		{list(at(ahead, top), at(ahead-1, top), at(ahead, top-1)), list(at(ahead-1, top), at(ahead, top-1))},
		{list(at(1<<62+1), at(1<<63)), list(at(1<<62 + 1))},
		{list(at(0, 1, 2, 3, 4, 5), at(0, 1, 2, 3, 4, 4), at(0, 1, 2, 3, 4)), list(at(0, 1, 2, 3, 4), at(0, 1, 2, 3, 4, 4))},
	} {
		if got := chain.Of(x.l); !sameList(got, x.want) {
			t.Errorf("Of(%v) = %v, want %v", x.l, got, x.want)
		}
	}
}

func TestInsert(t *testing.T) {
	for _, x := range []struct {
		a    []api.Time
		t    api.Time
		want []api.Time
	}{
		{nil, at(3), list(at(3))},
		{list(at(3)), at(3), list(at(3))},
		{list(at(3)), at(4), list(at(3))},
		{list(at(3)), at(2), list(at(2))},
		{list(at(3, 1)), at(2, 5), list(at(2, 5), at(3, 1))},
		{list(at(2, 5)), at(3, 1), list(at(2, 5), at(3, 1))},
		{list(at(2, 5), at(3, 1)), at(3, 2), list(at(2, 5), at(3, 1))},
		{list(at(2, 5), at(3, 1)), at(2, 1), list(at(2, 1))},
		{list(at(1, 9), at(2, 5), at(3, 1)), at(2, 0), list(at(1, 9), at(2, 0))},
		{list(at(3)), at(0, 0), list(at(3), at(0, 0))},
		{list(at(0, 0)), at(3), list(at(3), at(0, 0))},

		// a need not be an antichain, nor in order.
		{list(at(5), at(4), at(4)), at(6), list(at(4))},
		{list(at(3, 1), at(2, 5)), at(9, 9), list(at(2, 5), at(3, 1))},
		{list(at(3, 1), at(3, 2), at(2, 5)), at(0), list(at(0), at(2, 5), at(3, 1))},
		{list(at(1, 2), at(0, 1))[:1], at(7, 0), list(at(1, 2), at(7, 0))},
	} {
		if got := chain.Insert(x.a, x.t); !sameList(got, x.want) {
			t.Errorf("Insert(%v, %v) = %v, want %v", x.a, x.t, got, x.want)
		}
	}
}

func TestBeyond(t *testing.T) {
	frontier := list(at(2, 5), at(3, 1))
	for _, x := range []struct {
		a    []api.Time
		t    api.Time
		want bool
	}{
		{frontier, at(3, 1), true},
		{frontier, at(2, 6), true},
		{frontier, at(2, 4), false},
		{frontier, at(2, 5), true},
		{frontier, at(3, 4), true},
		{frontier, at(9, 9), true},
		{frontier, at(9, 0), false},
		{frontier, at(1, 9), false},
		{frontier, at(9), false},
		{frontier, at(9, 9, 9), false},
		{nil, at(0), false},
		{nil, at(ahead, top), false},
		{list(at(0)), at(0), true},
		{list(at(0)), at(ahead), true},
		{list(at(1)), at(0), false},
		{list(at(4), at(1)), at(2), true}, // no antichain
		{list(at(1), at(4)), at(2), true},
		{list(at(4), at(1))[:1], at(2), false},
		{list(at(5), at(0, 3)), at(0, 3), true},
		{list(at(5), at(0, 3)), at(5), true},
		{list(at(0, 1, 2, 3, 4)), at(0, 1, 2, 3, 4), true},
	} {
		if got := chain.Beyond(x.a, x.t); got != x.want {
			t.Errorf("Beyond(%v, %v) = %v, want %v", x.a, x.t, got, x.want)
		}
	}
}

func TestLeq(t *testing.T) {
	for _, x := range []struct {
		a, b []api.Time
		want bool
	}{
		{nil, nil, true},
		{list(at(1)), nil, true},
		{nil, list(at(1)), false},
		{list(at(1)), list(at(1)), true},
		{list(at(1)), list(at(2)), true},
		{list(at(2)), list(at(1)), false},
		{list(at(2, 5), at(3, 1)), list(at(2, 5), at(3, 1)), true},
		{list(at(2, 5), at(3, 1)), list(at(2, 6), at(4, 1)), true},
		{list(at(2, 5), at(3, 1)), list(at(3, 3)), true},
		{list(at(2, 5), at(3, 1)), list(at(3, 3), at(2, 4)), false},
		{list(at(2, 5), at(3, 1)), list(at(2, 4), at(3, 3)), false},
		{list(at(2, 5)), list(at(2, 5), at(3, 1)), false},
		{list(at(3, 1)), list(at(3, 1), at(3, 0)), false},
		{list(at(1), at(1, 1)), list(at(1)), true},
		{list(at(1)), list(at(1), at(1, 1)), false},
		{list(at(4), at(1)), list(at(3), at(2)), true}, // no antichains
		{list(at(1)), list(at(3), at(0))[:1], true},
	} {
		if got := chain.Leq(x.a, x.b); got != x.want {
			t.Errorf("Leq(%v, %v) = %v, want %v", x.a, x.b, got, x.want)
		}
	}
}

func TestJoin(t *testing.T) {
	for _, x := range []struct{ a, b, want []api.Time }{
		{list(at(2, 5), at(3, 1)), list(at(3, 0)), list(at(3, 1))},
		{nil, nil, nil},
		{list(at(3)), nil, nil},
		{nil, list(at(3)), nil},
		{list(at(3)), list(at(5)), list(at(5))},
		{list(at(3)), list(at(3)), list(at(3))},
		{list(at(1, 4)), list(at(2, 3)), list(at(2, 4))},
		{list(at(1, 4), at(4, 1)), list(at(2, 3), at(3, 2)), list(at(2, 4), at(4, 2))},
		{list(at(1, 4), at(4, 1)), list(at(1, 4), at(4, 1)), list(at(1, 4), at(4, 1))},
		{list(at(0, 2), at(2, 0)), list(at(1, 1)), list(at(1, 2), at(2, 1))},

		// Only times of the same depth are joined.
		{list(at(3)), list(at(3, 0)), nil},
		{list(at(3), at(1, 2)), list(at(0, 7), at(5)), list(at(5), at(1, 7))},
		{list(at(3), at(1, 2)), list(at(0, 7)), list(at(1, 7))},
		{list(at(3), at(1, 2, 0)), list(at(0, 7)), nil},
		{list(at(0, 1, 2, 3, 9)), list(at(0, 1, 2, 9, 4)), list(at(0, 1, 2, 9, 9))},

		// They need be neither antichains nor in order.
		{list(at(5), at(3)), list(at(4), at(2), at(2)), list(at(3))},
		{list(at(4, 4), at(1, 4), at(4, 1)), list(at(9, 9), at(2, 3)), list(at(2, 4), at(4, 3))},
		{list(at(5), at(3))[:1], list(at(4), at(9))[:1], list(at(5))},
	} {
		if got := chain.Join(x.a, x.b); !sameList(got, x.want) {
			t.Errorf("Join(%v, %v) = %v, want %v", x.a, x.b, got, x.want)
		}
		if got := chain.Join(x.b, x.a); !sameList(got, x.want) {
			t.Errorf("Join(%v, %v) = %v, want %v", x.b, x.a, got, x.want)
		}
	}
}

func TestAdvance(t *testing.T) {
	for _, x := range []struct {
		a       []api.Time
		t, want api.Time
	}{
		{list(at(3)), at(5), at(5)},
		{list(at(3)), at(2), at(3)},
		{list(at(3)), at(3), at(3)},
		{nil, at(2), at(2)},
		{nil, at(2, 7), at(2, 7)},
		{list(at(2, 5), at(3, 1)), at(0, 0), at(2, 1)},
		{list(at(2, 5), at(3, 1)), at(2, 0), at(2, 1)},
		{list(at(2, 5), at(3, 1)), at(0, 6), at(2, 6)},
		{list(at(2, 5), at(3, 1)), at(4, 0), at(4, 1)},
		{list(at(2, 5), at(3, 1)), at(4, 3), at(4, 3)},
		{list(at(3, 1), at(2, 5)), at(0, 0), at(2, 1)},
		{list(at(0, 2, 2), at(2, 0, 2), at(2, 2, 0)), at(0, 0, 0), at(0, 0, 0)},
		{list(at(1, 2, 3), at(3, 2, 1)), at(2, 0, 0), at(2, 2, 1)},

		// Times of another depth do not count.
		{list(at(3)), at(2, 7), at(2, 7)},
		{list(at(3, 0)), at(2), at(2)},
		{list(at(3), at(9, 9)), at(2), at(3)},
		{list(at(9, 9), at(3)), at(2), at(3)},
		{list(at(0), at(5, 5), at(0, 0, 0)), at(1, 1), at(5, 5)},
		{list(at(0, 1, 2, 3, 9)), at(7, 0, 9, 0, 0), at(7, 1, 9, 3, 9)},

		// a need not be an antichain: the least Joins are all that matters.
		{list(at(3), at(4), at(3)), at(2), at(3)},
		{list(at(4), at(3), at(9)), at(2), at(3)},
		{list(at(4), at(3))[:1], at(2), at(4)},
		{list(at(ahead, top)), at(ahead, 0), at(ahead, top)},
	} {
		if got := chain.Advance(x.a, x.t); !same(got, x.want) {
			t.Errorf("Advance(%v, %v) = %v, want %v", x.a, x.t, got, x.want)
		}
	}
}
