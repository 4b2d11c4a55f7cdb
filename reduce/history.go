package reduce

import (
	"slices"

	"penstock/api"
	"penstock/delta"
	"penstock/row"
	"penstock/stamp"
)

// history is updates, and what those up to a time come to: who asks for a time most often asks for one beyond it next.
type history struct {
	asked    api.Time
	bag      []api.Counted // what passed comes to
	passed   []api.Update  // all of them are at or ahead of asked
	coming   queue         // all others
	combined int           // how many there were in all when they were combined last
}

// few updates are not worth combining.
const few = 8

// add adds an update.
func (h *history) add(u api.Update) {
	h.coming.put(u)
	h.combine()
}

// combine combines all updates whenever there are twice as many, so that what comes to nothing does not stay.
func (h *history) combine() {
	if n := len(h.passed) + len(h.coming.list); n >= few && n >= 2*h.combined {
		h.restart(delta.Sum(h.all()))
		h.combined = len(h.coming.list)
	}
}

func (h *history) all() []api.Update { return slices.Concat(h.passed, h.coming.list) }

// restart makes l the updates, none of which has passed; the room that l may have behind its end is not kept.
func (h *history) restart(l []api.Update) {
	h.bag, h.passed, h.coming = nil, nil, queue{list: slices.Concat(l), mixed: true}
}

// at is the bag at t, which is not to be changed.
func (h *history) at(t api.Time) []api.Counted {
	if !stamp.Leq(h.asked, t) { // not all that has passed is there at t
		h.restart(h.all())
	}
	h.asked = t
	reached := h.coming.take(t)
	if len(reached) > 0 {
		h.passed = append(h.passed, reached...)
		h.bag = together(h.bag, row.Sum(counted(reached)))
	}
	return h.bag
}

// turn adds what makes the bag at t that one, which is in the form of row.Sum; and tells it.
func (h *history) turn(t api.Time, bag []api.Counted) []api.Update {
	var out []api.Update
	for _, c := range together(bag, negated(h.at(t))) {
		out = append(out, api.Update{Row: c.Row, Time: t, Diff: c.Count})
	}
	h.bag, h.passed = bag, append(h.passed, out...)
	h.combine()
	return out
}

func counted(l []api.Update) []api.Counted {
	var out []api.Counted
	for _, u := range l {
		out = append(out, api.Counted{Row: u.Row, Count: u.Diff})
	}
	return out
}

func negated(l []api.Counted) []api.Counted {
	var out []api.Counted
	for _, c := range l {
		out = append(out, api.Counted{Row: c.Row, Count: -c.Count})
	}
	return out
}

// together is what two bags come to; all are in the form of row.Sum.
func together(a, b []api.Counted) []api.Counted {
	out := make([]api.Counted, 0, len(a)+len(b))
	for len(a) > 0 && len(b) > 0 {
		switch c := row.Cmp(a[0].Row, b[0].Row); {
		case c < 0:
			out, a = append(out, a[0]), a[1:]
		case c > 0:
			out, b = append(out, b[0]), b[1:]
		default:
			if n := a[0].Count + b[0].Count; n != 0 {
				out = append(out, api.Counted{Row: a[0].Row, Count: n})
			}
			a, b = a[1:], b[1:]
		}
	}
	return slices.Concat(out, a, b)
}
