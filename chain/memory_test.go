package chain_test

import (
	"slices"
	"testing"

	"penstock/api"
	"penstock/chain"
)

// roomy is t, whose counters have other ones behind their end.
func roomy(t api.Time) api.Time {
	t.Loops = append(slices.Clone(t.Loops), 70, 80)[:len(t.Loops)]
	return t
}

// roomyList is times like l, in a list with another time behind its end, which is Leq most of them.
func roomyList(l ...api.Time) []api.Time {
	var out []api.Time
	for _, t := range append(slices.Clone(l), at(0, 0)) {
		out = append(out, roomy(t))
	}
	return out[:len(l)]
}

// whole is a copy of all that l has, also behind its end and behind those of the counters.
func whole(l []api.Time) []api.Time {
	out := slices.Clone(l[:cap(l)])
	for i, t := range out {
		out[i].Loops = slices.Clone(t.Loops[:cap(t.Loops)])
	}
	return out
}

func spoilCounters(l []uint32) {
	for i := range l[:cap(l)] {
		l[:cap(l)][i] = 999
	}
}

// spoil writes over all that l has, also behind its end and behind those of the counters.
func spoil(l []api.Time) {
	l = l[:cap(l)]
	for i := range l {
		spoilCounters(l[i].Loops)
		l[i] = at(999, 999)
	}
}

// calls is every call that answers times, with the lists that it is given.
func calls() map[string]func(a, b []api.Time) []api.Time {
	return map[string]func(a, b []api.Time) []api.Time{
		"Of":      func(a, _ []api.Time) []api.Time { return chain.Of(a) },
		"Insert":  func(a, b []api.Time) []api.Time { return chain.Insert(a, b[0]) },
		"Join":    chain.Join,
		"Advance": func(a, b []api.Time) []api.Time { return list(chain.Advance(a, b[0])) },
	}
}

func TestTimesAreNewMemory(t *testing.T) {
	for name, call := range calls() {
		for _, x := range [][2][]api.Time{
			{list(at(2, 5), at(3, 1)), list(at(3, 0))},
			{list(at(2, 5), at(3, 1)), list(at(1, 7))},
			{list(at(2, 5), at(3, 1), at(4)), list(at(5))},
			{list(at(3, 1, 2), at(2, 2, 2)), list(at(0, 0, 0))},
			{list(at(3, 1, 2), at(3)), list(at(9, 9))}, // Advance answers t itself
			{nil, list(at(9, 9))},
			{list(at(3), at(2), at(4, 1), at(4, 1)), list(at(1))},
		} {
			a, b := roomyList(x[0]...), roomyList(x[1]...)
			wholeA, wholeB := whole(a), whole(b)
			first, second := call(a, b), call(a, b)
			want := whole(second)
			spoil(first)
			if !sameList(whole(second), want) {
				t.Errorf("%s(%v, %v): what is answered shares memory with the answer before", name, x[0], x[1])
			}
			chain.Beyond(a, b[0])
			chain.Leq(a, b)
			if !sameList(whole(a), wholeA) || !sameList(whole(b), wholeB) {
				t.Errorf("%s(%v, %v): an argument has changed", name, x[0], x[1])
			}
			spoil(a)
			spoil(b)
			if !sameList(whole(second), want) {
				t.Errorf("%s(%v, %v): what is answered shares memory with an argument", name, x[0], x[1])
			}
		}
	}
}

// apart says whether no time of l has counters in common with another one.
func apart(l []api.Time) bool {
	for i := range l {
		before := whole(l)
		spoilCounters(l[i].Loops)
		for j, t := range whole(l) {
			if i != j && !same(t, before[j]) {
				return false
			}
		}
	}
	return true
}

func timesOf(l []api.Change) []api.Time {
	var out []api.Time
	for _, x := range l {
		out = append(out, x.Time)
	}
	return out
}

func TestTimesOfAnAnswerAreApart(t *testing.T) {
	shared := []uint32{5, 6}
	a := list(api.Time{Epoch: 2, Loops: shared}, api.Time{Epoch: 1, Loops: shared[:1]}, api.Time{Epoch: 3, Loops: shared[1:]}, at(2, 9), at(1, 0, 9))
	for name, got := range map[string][]api.Time{"Of": chain.Of(a), "Insert": chain.Insert(a, at(0, 9)), "Join": chain.Join(a, a)} {
		if len(got) < 3 || !apart(got) {
			t.Errorf("%s: the times %v share memory", name, got)
		}
	}
	c := chain.New()
	var l []api.Change
	for _, x := range a {
		l = append(l, by(1, x))
	}
	if got := timesOf(c.Update(l)); len(got) < 3 || !apart(got) {
		t.Errorf("Update: the times %v share memory", got)
	}
	if got := c.Frontier(); len(got) < 3 || !apart(got) {
		t.Errorf("Frontier: the times %v share memory", got)
	}
}

func TestCountsKeepNothingThatIsNotTheirs(t *testing.T) {
	c := chain.New()
	times := roomyList(at(2, 5), at(3, 1), at(4, 4))
	before := whole(times)
	l := append(make([]api.Change, 0, 4), by(1, times[0]), by(1, times[1]), by(1, times[2]))
	came := c.Update(l)
	if !sameList(whole(times), before) || !sameChanges(l[:4], changes(by(1, at(2, 5)), by(1, at(3, 1)), by(1, at(4, 4)), api.Change{})) {
		t.Errorf("the argument has changed: %v", l[:4])
	}
	first := c.Frontier()
	spoil(times)
	spoil(timesOf(came))
	if want := list(at(2, 5), at(3, 1)); !sameList(first, want) || !sameList(c.Frontier(), want) {
		t.Errorf("Frontier was %v, and is now %v", first, c.Frontier())
	}
	spoil(first)
	if got := c.Update(changes(by(-1, at(2, 5)), by(-1, at(3, 1)))); !sameChanges(got, changes(by(-1, at(2, 5)), by(-1, at(3, 1)), by(1, at(4, 4)))) {
		t.Errorf("Update answers %v", got)
	}
	if n := c.Count(roomy(at(4, 4))); n != 1 {
		t.Error(n)
	}
}
