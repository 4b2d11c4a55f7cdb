package chain_test

import (
	"math"
	"slices"
	"testing"

	"penstock/api"
	"penstock/chain"
)

func by(diff int64, t api.Time) api.Change { return api.Change{Time: t, Diff: diff} }

func changes(l ...api.Change) []api.Change { return l }

func sameChanges(a, b []api.Change) bool {
	return slices.EqualFunc(a, b, func(x, y api.Change) bool { return x.Diff == y.Diff && same(x.Time, y.Time) })
}

// update is one of a row of updates, and what it answers and leaves.
type update struct {
	l, want  []api.Change
	frontier []api.Time
}

func play(t *testing.T, what string, l ...update) {
	t.Helper()
	c := chain.New()
	for i, x := range l {
		if got := c.Update(x.l); !sameChanges(got, x.want) {
			t.Errorf("%s: Update %d (%v) = %v, want %v", what, i, x.l, got, x.want)
		}
		if got := c.Frontier(); !sameList(got, x.frontier) {
			t.Errorf("%s: Frontier after update %d is %v, want %v", what, i, got, x.frontier)
		}
	}
}

func TestNewCountsAreAllZero(t *testing.T) {
	c := chain.New()
	if got := c.Frontier(); len(got) != 0 {
		t.Errorf("Frontier is %v", got)
	}
	for _, x := range list(at(0), at(ahead), at(0, 0), at(1, 2, 3, 4, 5)) {
		if n := c.Count(x); n != 0 {
			t.Errorf("Count(%v) = %d", x, n)
		}
	}
}

func TestUpdateTellsHowTheFrontierChanges(t *testing.T) {
	play(t, "one after the other",
		update{changes(by(1, at(2))), changes(by(1, at(2))), list(at(2))},
		update{changes(by(1, at(3))), nil, list(at(2))},
		update{changes(by(-1, at(2))), changes(by(-1, at(2)), by(1, at(3))), list(at(3))},
		update{changes(by(-1, at(3))), changes(by(-1, at(3))), nil})
	play(t, "an earlier time comes, and goes",
		update{changes(by(1, at(5))), changes(by(1, at(5))), list(at(5))},
		update{changes(by(1, at(4))), changes(by(1, at(4)), by(-1, at(5))), list(at(4))},
		update{changes(by(-1, at(4))), changes(by(-1, at(4)), by(1, at(5))), list(at(5))})
	play(t, "counts above 1",
		update{changes(by(2, at(2))), changes(by(1, at(2))), list(at(2))},
		update{changes(by(5, at(2))), nil, list(at(2))},
		update{changes(by(-6, at(2))), nil, list(at(2))},
		update{changes(by(-1, at(2))), changes(by(-1, at(2))), nil})
	play(t, "nothing changes",
		update{nil, nil, nil},
		update{changes(by(0, at(2))), nil, nil},
		update{changes(by(1, at(2)), by(-1, at(2))), nil, nil},
		update{changes(by(-1, at(2)), by(1, at(2))), nil, nil},
		update{changes(by(1, at(2)), by(1, at(3))), changes(by(1, at(2))), list(at(2))},
		update{changes(by(0, at(2)), by(0, at(3)), by(0, at(1))), nil, list(at(2))},
		update{changes(by(-1, at(2)), by(1, at(2))), nil, list(at(2))})
}

func TestUpdateTakesAllChangesTogether(t *testing.T) {
	play(t, "what comes and goes again is not told",
		update{changes(by(1, at(2))), changes(by(1, at(2))), list(at(2))},
		update{changes(by(-1, at(2)), by(1, at(3)), by(-1, at(3)), by(1, at(4))), changes(by(-1, at(2)), by(1, at(4))), list(at(4))},
		update{changes(by(1, at(1)), by(1, at(0)), by(-1, at(1)), by(-1, at(0))), nil, list(at(4))},
		update{changes(by(-1, at(4)), by(2, at(4))), nil, list(at(4))})
	play(t, "in the order of times, not of what becomes of them",
		update{changes(by(1, at(3, 1)), by(1, at(2, 2)), by(1, at(1, 3))), changes(by(1, at(1, 3)), by(1, at(2, 2)), by(1, at(3, 1))), list(at(1, 3), at(2, 2), at(3, 1))},
		update{changes(by(1, at(9)), by(-1, at(2, 2)), by(1, at(1, 2)), by(1, at(5, 0))),
			changes(by(1, at(9)), by(1, at(1, 2)), by(-1, at(1, 3)), by(-1, at(2, 2)), by(1, at(5, 0))), list(at(9), at(1, 2), at(3, 1), at(5, 0))},
		update{changes(by(1, at(0, 0)), by(-1, at(9))), changes(by(-1, at(9)), by(1, at(0, 0)), by(-1, at(1, 2)), by(-1, at(3, 1)), by(-1, at(5, 0))), list(at(0, 0))})
}

func TestTimesOfDifferentDepthsAreCountedApart(t *testing.T) {
	play(t, "depths",
		update{changes(by(1, at(0, 0)), by(1, at(0)), by(1, at(0, 0, 0))), changes(by(1, at(0)), by(1, at(0, 0)), by(1, at(0, 0, 0))), list(at(0), at(0, 0), at(0, 0, 0))},
		update{changes(by(-1, at(0, 0))), changes(by(-1, at(0, 0))), list(at(0), at(0, 0, 0))},
		update{changes(by(1, at(0, 1, 2, 3, 4)), by(1, at(ahead, top))), changes(by(1, at(ahead, top)), by(1, at(0, 1, 2, 3, 4))), list(at(0), at(ahead, top), at(0, 0, 0), at(0, 1, 2, 3, 4))},
		update{changes(by(-1, api.Time{Loops: []uint32{}})), changes(by(-1, at(0))), list(at(ahead, top), at(0, 0, 0), at(0, 1, 2, 3, 4))})
}

func TestCountsBelowZeroAreNotInTheFrontier(t *testing.T) {
	play(t, "below 0",
		update{changes(by(-2, at(1))), nil, nil},
		update{changes(by(1, at(4))), changes(by(1, at(4))), list(at(4))},
		update{changes(by(2, at(1))), nil, list(at(4))},
		update{changes(by(1, at(1))), changes(by(1, at(1)), by(-1, at(4))), list(at(1))},
		update{changes(by(-5, at(1))), changes(by(-1, at(1)), by(1, at(4))), list(at(4))})
}

func TestCountsWrapAround(t *testing.T) {
	play(t, "behind the greatest count comes the least one",
		update{changes(by(math.MaxInt64, at(1))), changes(by(1, at(1))), list(at(1))},
		update{changes(by(1, at(1))), changes(by(-1, at(1))), nil},
		update{changes(by(-1, at(1))), changes(by(1, at(1))), list(at(1))},
		update{changes(by(2, at(1)), by(math.MaxInt64, at(1))), changes(by(-1, at(1))), nil})
	c := chain.New()
	c.Update(changes(by(math.MaxInt64, at(1)), by(1, at(1))))
	if n := c.Count(at(1)); n != math.MinInt64 {
		t.Error(n)
	}
	c.Update(changes(by(math.MinInt64, at(1))))
	if n := c.Count(at(1)); n != 0 {
		t.Error(n)
	}
	c.Update(changes(by(math.MinInt64, at(1)), by(-1, at(1))))
	if n := c.Count(at(1)); n != math.MaxInt64 {
		t.Error(n)
	}
}

func TestCount(t *testing.T) {
	c := chain.New()
	c.Update(changes(by(2, at(2)), by(-3, at(2, 0)), by(7, at(1, 2)), by(1, at(12)), by(4, at(2)), by(5, at(1, 21, 3)), by(0, at(8))))
	c.Update(changes(by(-1, at(1, 2)), by(-1, at(12))))
	for _, x := range []struct {
		t    api.Time
		want int64
	}{
		{at(2), 6}, {api.Time{Epoch: 2, Loops: []uint32{}}, 6}, {at(2, 0), -3}, {at(1, 2), 6}, {at(12), 0}, {at(1, 21, 3), 5}, {at(8), 0},
		{at(3), 0}, {at(1), 0}, {at(2, 0, 0), 0}, {at(1, 2, 13), 0}, {at(1, 2, 1, 3), 0}, {at(0), 0},
	} {
		if n := c.Count(x.t); n != x.want {
			t.Errorf("Count(%v) = %d, want %d", x.t, n, x.want)
		}
	}
}

func TestCountsAreIndependent(t *testing.T) {
	a, b := chain.New(), chain.New()
	a.Update(changes(by(1, at(2))))
	if n := b.Count(at(2)); n != 0 || len(b.Frontier()) != 0 {
		t.Errorf("the other ones have %d at 2, and %v", n, b.Frontier())
	}
	if got := b.Update(changes(by(1, at(3)))); !sameChanges(got, changes(by(1, at(3)))) {
		t.Error(got)
	}
	if !sameList(a.Frontier(), list(at(2))) || a.Count(at(3)) != 0 {
		t.Error(a.Frontier(), a.Count(at(3)))
	}
}
