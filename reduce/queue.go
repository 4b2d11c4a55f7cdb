package reduce

import (
	"slices"

	"penstock/api"
	"penstock/stamp"
)

// queue is updates, of which those up to a time are taken: when they are in order, the last ones are the earliest.
type queue struct {
	list  []api.Update
	mixed bool // they are not in order
}

func (q *queue) put(u api.Update) {
	q.list = append(q.list, u)
	q.mixed = true
}

// take takes out what is at or ahead of t.
func (q *queue) take(t api.Time) []api.Update {
	q.order()
	i, _ := slices.BinarySearchFunc(q.list, t, func(u api.Update, t api.Time) int { return stamp.Cmp(t, u.Time) })
	near := q.list[i:]
	var out []api.Update
	q.list = q.list[:i]
	for _, u := range near {
		if stamp.Leq(u.Time, t) {
			out = append(out, u)
		} else {
			q.list = append(q.list, u) // not behind where it was: near is still as it was from here on
		}
	}
	if len(q.list) == 0 {
		q.list = nil // the room for them may be great
	}
	return out
}

func (q *queue) order() {
	if q.mixed {
		slices.SortFunc(q.list, func(a, b api.Update) int { return stamp.Cmp(b.Time, a.Time) })
		q.mixed = false
	}
}
