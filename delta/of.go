package delta

import (
	"slices"

	"penstock/api"
	"penstock/row"
	"penstock/stamp"
)

// history is times, visited in their order, and updates that come to the bag of each time visited.
type history struct {
	bags  map[string][]api.Counted // by the times' text forms
	bases []api.Time               // the times visited that are no join of smaller ones: the others are joins of these
	out   []api.Update
}

func historyOf(times []api.Time, bags [][]api.Counted) history {
	h := history{bags: map[string][]api.Counted{}}
	for i, t := range times {
		h.bags[stamp.Print(t)] = bags[i]
	}
	return h
}

func (h *history) has(t api.Time) bool {
	_, found := h.bags[stamp.Print(t)]
	return found
}

// below is what all smaller bases join to, if there is one: no other time visited that is smaller than t is beyond it.
func (h *history) below(t api.Time) (below api.Time, some bool) {
	for _, b := range h.bases {
		switch {
		case !stamp.Leq(b, t):
		case !some || stamp.Leq(below, b):
			below, some = b, true
		default:
			below, _ = stamp.Join(below, b)
		}
	}
	return below, some
}

// visit adds the updates at t, behind which no time visited is.
func (h *history) visit(t api.Time) {
	below, some := h.below(t)
	isJoin := some && stamp.Cmp(below, t) == 0
	var before []api.Counted
	switch {
	case isJoin:
		before = At(h.out, t)
	case some:
		before = h.bags[stamp.Print(below)]
	}
	if !isJoin {
		h.bases = append(h.bases, t)
	}
	for _, c := range difference(h.bags[stamp.Print(t)], before) {
		h.out = append(h.out, api.Update{Row: c.Row, Time: t, Diff: c.Count})
	}
}

// difference is what a has more often than b.
func difference(a, b []api.Counted) []api.Counted {
	l := slices.Concat(a, b)
	for i := range l[len(a):] {
		l[len(a)+i].Count *= -1
	}
	return row.Sum(l)
}

// Of is updates that come, at each of some times, to a bag.
func Of(times []api.Time, bags [][]api.Counted) []api.Update {
	if len(times) != len(bags) {
		return nil
	}
	h := historyOf(times, bags)
	if len(h.bags) != len(times) {
		return nil
	}
visit:
	for _, t := range slices.SortedFunc(slices.Values(times), stamp.Cmp) {
		for _, b := range h.bases { // joins with these are enough: all others are joins of such joins
			if stamp.Leq(b, t) {
				continue
			}
			if j, e := stamp.Join(b, t); e == api.OK && !h.has(j) {
				h.out = nil
				break visit
			}
		}
		h.visit(t)
	}
	return Sum(h.out)
}
