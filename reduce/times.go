package reduce

import (
	"slices"

	"penstock/api"
	"penstock/stamp"
)

// times is a list of times in the order of stamp.Cmp, each once, with all that comes of joining several of them.
type times []api.Time

// join adds t, and all joins of it with what is there.
func (l *times) join(t api.Time) {
	if _, found := slices.BinarySearchFunc(*l, t, stamp.Cmp); found {
		return // so are its joins
	}
	if n := len(*l); n > 0 && stamp.Leq((*l)[n-1], t) {
		*l = append(*l, t) // the last one is beyond all others of its depth, which join with t to t alone
		return
	}
	for _, x := range *l { // what comes behind meanwhile is joined with t already
		if stamp.Leq(x, t) || stamp.Leq(t, x) {
			continue
		}
		if j, e := stamp.Join(x, t); e == api.OK {
			*l = append(*l, j)
		}
	}
	*l = append(*l, t)
	slices.SortFunc(*l, stamp.Cmp)
	*l = slices.CompactFunc(*l, func(a, b api.Time) bool { return stamp.Cmp(a, b) == 0 })
}

// from is those at or behind t.
func (l times) from(t api.Time) []api.Time {
	var out []api.Time
	i, _ := slices.BinarySearchFunc(l, t, stamp.Cmp)
	for _, x := range l[i:] {
		if stamp.Leq(t, x) {
			out = append(out, x)
		}
	}
	return out
}

func freshTime(t api.Time) api.Time {
	return api.Time{Epoch: t.Epoch, Loops: slices.Concat(t.Loops)}
}
