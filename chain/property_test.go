package chain_test

import (
	"fmt"
	"slices"
	"testing"

	"penstock/api"
	"penstock/chain"
	"penstock/stamp"
)

// times is all times of that depth whose Epoch and counters are below bound.
func times(depth int, bound uint32) []api.Time {
	var out []api.Time
	for epoch := range bound {
		out = append(out, at(uint64(epoch)))
	}
	for range depth {
		shorter := out
		out = nil
		for _, t := range shorter {
			for n := range bound {
				out = append(out, at(t.Epoch, append(slices.Clone(t.Loops), n)...))
			}
		}
	}
	return out
}

// small is some times of several depths, whose parts tell all that may be: every list of them is tried.
func small() []api.Time {
	return slices.Concat(times(0, 2), times(1, 3), list(at(0, 0, 1), at(0, 1, 0)))
}

// seen is times from which to look at small ones: before, between and behind them.
func seen() []api.Time { return slices.Concat(times(0, 4), times(1, 4), times(2, 3)) }

// parts is all lists of different times of l.
func parts(l []api.Time) [][]api.Time {
	out := [][]api.Time{nil}
	for _, t := range l {
		for _, part := range out {
			out = append(out, append(slices.Clone(part), t))
		}
	}
	return out
}

func antichains(l []api.Time) [][]api.Time {
	return slices.DeleteFunc(parts(l), func(part []api.Time) bool { return len(chain.Of(part)) < len(part) })
}

func turned(l []api.Time) []api.Time {
	out := slices.Clone(l)
	slices.Reverse(out)
	return out
}

// minimal is what the chapter says of Of, word by word.
func minimal(l []api.Time) []api.Time {
	var out []api.Time
	for _, t := range l {
		other := func(x api.Time) bool { return !same(x, t) && stamp.Leq(x, t) }
		told := func(x api.Time) bool { return same(x, t) }
		if !slices.ContainsFunc(l, other) && !slices.ContainsFunc(out, told) {
			out = append(out, t)
		}
	}
	slices.SortFunc(out, stamp.Cmp)
	return out
}

func TestOfIsTheMinimalTimes(t *testing.T) {
	from := seen()
	for _, l := range parts(small()) {
		want := minimal(l)
		for _, x := range [][]api.Time{l, turned(l), slices.Concat(l, turned(l))} {
			if got := chain.Of(x); !sameList(got, want) {
				t.Fatalf("Of(%v) = %v, want %v", x, got, want)
			}
		}
		if len(l) > 0 && !sameList(chain.Insert(l[1:], l[0]), want) {
			t.Fatalf("Insert(%v, %v) = %v, want %v", l[1:], l[0], chain.Insert(l[1:], l[0]), want)
		}
		for _, x := range from {
			if chain.Beyond(want, x) != chain.Beyond(l, x) {
				t.Fatalf("%v is not as far beyond Of(%v) as beyond it", x, l)
			}
		}
	}
}

func TestLeqIsThatOfAllThatIsBeyond(t *testing.T) {
	all, from := antichains(small()), seen()
	for _, a := range all {
		for _, b := range all {
			want := true
			for _, x := range from {
				want = want && (!chain.Beyond(b, x) || chain.Beyond(a, x))
			}
			if got := chain.Leq(a, b); got != want {
				t.Fatalf("Leq(%v, %v) = %v, want %v", a, b, got, want)
			}
		}
	}
}

func TestBeyondJoinIsBeyondBoth(t *testing.T) {
	all, from := antichains(small()), seen()
	for _, a := range all {
		for _, b := range all {
			join := chain.Join(a, b)
			if !sameList(join, chain.Of(join)) {
				t.Fatalf("Join(%v, %v) = %v is no antichain", a, b, join)
			}
			for _, x := range from {
				if chain.Beyond(join, x) != (chain.Beyond(a, x) && chain.Beyond(b, x)) {
					t.Fatalf("Join(%v, %v) = %v, seen from %v", a, b, join, x)
				}
			}
		}
	}
}

// allJoins is what the chapter says of Join, word by word.
func allJoins(a, b []api.Time) []api.Time {
	var out []api.Time
	for _, x := range a {
		for _, y := range b {
			if join, e := stamp.Join(x, y); e == api.OK {
				out = append(out, join)
			}
		}
	}
	return minimal(out)
}

func TestJoinIsOfAnyTimes(t *testing.T) {
	some := parts(append(times(0, 2), at(0, 1), at(1, 0), at(1, 1)))
	for _, a := range some {
		for _, b := range some {
			if got, want := chain.Join(a, b), allJoins(a, b); !sameList(got, want) {
				t.Fatalf("Join(%v, %v) = %v, want %v", a, b, got, want)
			}
		}
	}
}

func TestTimesBeyondCannotTellAdvance(t *testing.T) {
	from := seen()
	for _, a := range parts(small()) {
		for _, x := range small() {
			got := chain.Advance(a, x)
			if !sameList(list(got), list(chain.Advance(turned(a), x))) {
				t.Fatalf("Advance(%v, %v) depends on the order", a, x)
			}
			for _, y := range from {
				if chain.Beyond(a, y) && stamp.Leq(got, y) != stamp.Leq(x, y) {
					t.Fatalf("Advance(%v, %v) = %v, seen from %v", a, x, got, y)
				}
			}
		}
	}
}

// changed is a frontier after changes: what goes must be there, and what comes must not.
func changed(t *testing.T, frontier []api.Time, l []api.Change) []api.Time {
	t.Helper()
	out := slices.Clone(frontier)
	for _, x := range l {
		i := slices.IndexFunc(out, func(y api.Time) bool { return same(x.Time, y) })
		switch {
		case x.Diff == -1 && i >= 0:
			out = slices.Delete(out, i, i+1)
		case x.Diff == 1 && i < 0:
			out = append(out, x.Time)
		default:
			t.Fatalf("the changes %v of %v", l, frontier)
		}
	}
	slices.SortFunc(out, stamp.Cmp)
	return out
}

// present is the times whose count is above 0; counts are by the places of times.
func present(all []api.Time, counts []int64) []api.Time {
	var out []api.Time
	for i, n := range counts {
		if n > 0 {
			out = append(out, all[i])
		}
	}
	return out
}

func TestFrontierIsThePreviousOneWithTheChanges(t *testing.T) {
	all := list(at(1), at(2), at(0, 1), at(1, 0), at(1, 1))
	c, frontier, counts := chain.New(), []api.Time(nil), make([]int64, len(all))
	n := uint32(7)
	draw := func(below uint32) uint32 { n = n*1664525 + 1013904223; return n >> 16 % below }
	for range 20000 {
		var l []api.Change
		for range draw(4) {
			i, diff := draw(uint32(len(all))), int64(draw(5))-2
			l = append(l, by(diff, all[i]))
			counts[i] += diff
		}
		got := c.Update(l)
		if !slices.IsSortedFunc(got, func(a, b api.Change) int { return stamp.Cmp(a.Time, b.Time) }) {
			t.Fatalf("Update(%v) = %v is not in order", l, got)
		}
		frontier = changed(t, frontier, got)
		if want := minimal(present(all, counts)); !sameList(frontier, want) || !sameList(c.Frontier(), want) {
			t.Fatalf("after Update(%v) the frontier is %v, by the changes %v, want %v", l, c.Frontier(), frontier, want)
		}
		for i, x := range all {
			if c.Count(x) != counts[i] {
				t.Fatalf("Count(%v) = %d, want %d", x, c.Count(x), counts[i])
			}
		}
	}
}

// Maps are gone through in another order each time: it is not to be seen.
func TestAnswersAreTheSameAgain(t *testing.T) {
	first := ""
	for i := range 50 {
		c := chain.New()
		var l []api.Change
		for _, x := range slices.Concat(times(1, 6), times(2, 3)) {
			l = append(l, by(1, x), by(1, at(5-x.Epoch, x.Loops...)))
		}
		told := fmt.Sprint(c.Update(l), c.Frontier(), c.Update(changes(by(-2, at(0, 0)), by(-2, at(0, 0, 0)))), c.Frontier())
		if i == 0 {
			first = told
		}
		if told != first {
			t.Fatalf("%s, and then %s", first, told)
		}
	}
}
