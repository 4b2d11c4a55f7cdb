package chain

import (
	"slices"

	"penstock/api"
	"penstock/stamp"
)

// Counts has counts of times.
type Counts struct {
	held map[string]api.Change // by the time's text form; none is 0
}

// New is one of no times.
func New() *Counts { return &Counts{held: map[string]api.Change{}} }

// Update changes counts; what comes to the frontier (1) and what goes (-1).
func (c *Counts) Update(l []api.Change) []api.Change {
	before := c.Frontier()
	for _, x := range l {
		c.add(x)
	}
	after := c.Frontier()
	out := slices.Concat(missing(before, after, -1), missing(after, before, 1))
	slices.SortFunc(out, func(a, b api.Change) int { return stamp.Cmp(a.Time, b.Time) })
	return out
}

func (c *Counts) add(x api.Change) {
	key := stamp.Print(x.Time)
	sum := c.held[key].Diff + x.Diff
	if sum == 0 {
		delete(c.held, key)
		return
	}
	c.held[key] = api.Change{Time: fresh(x.Time), Diff: sum}
}

// missing is the times of l that other has not, each with diff; other is an antichain in its order.
func missing(l, other []api.Time, diff int64) []api.Change {
	var out []api.Change
	for _, t := range l {
		if _, found := slices.BinarySearchFunc(other, t, stamp.Cmp); !found {
			out = append(out, api.Change{Time: t, Diff: diff})
		}
	}
	return out
}

// Frontier is the antichain of all times whose count is above 0.
func (c *Counts) Frontier() []api.Time {
	present := make([]api.Time, 0, len(c.held))
	for _, x := range c.held {
		if x.Diff > 0 {
			present = append(present, x.Time)
		}
	}
	return Of(present)
}

// Count is a time's.
func (c *Counts) Count(t api.Time) int64 { return c.held[stamp.Print(t)].Diff }
