package stamp

import (
	"math"
	"slices"

	"penstock/api"
)

// Apply is what becomes of a time on a way.
func Apply(p api.Path, t api.Time) (api.Time, api.Errno) {
	if !leaves(p, len(t.Loops)) {
		return api.Time{}, api.ErrStampForm
	}
	kept := len(t.Loops) - p.Leave
	out := api.Time{Epoch: t.Epoch, Loops: slices.Concat(t.Loops[:kept], p.Enter)}
	var fits bool
	if kept == 0 {
		out.Epoch, fits = grown(t.Epoch, p.Add)
	} else {
		out.Loops[kept-1], fits = grown(t.Loops[kept-1], p.Add)
	}
	switch {
	case !fits:
		return api.Time{}, api.ErrStampOver
	case len(out.Loops) > api.MaxLoops:
		return api.Time{}, api.ErrStampForm
	}
	return out, api.OK
}

// leaves says whether p can leave as many of so many loops as it asks for.
func leaves(p api.Path, depth int) bool { return 0 <= p.Leave && p.Leave <= depth }

// grown is n and add together, and whether that fits: what wraps around is less than n.
func grown[N uint32 | uint64](n N, add uint32) (N, bool) {
	sum := n + N(add)
	return sum, sum >= n
}

// Then is the way that is first a, then b.
func Then(a, b api.Path) (api.Path, api.Errno) {
	if b.Leave < 0 {
		return api.Path{}, api.ErrStampForm
	}
	var out api.Path
	var fits bool
	kept := len(a.Enter) - b.Leave // of the counters that a enters; below 0: b leaves as many more
	switch {
	case kept > 0:
		out = api.Path{Leave: a.Leave, Add: a.Add, Enter: slices.Concat(a.Enter[:kept], b.Enter)}
		out.Enter[kept-1], fits = grown(a.Enter[kept-1], b.Add)
	case kept == 0:
		out = api.Path{Leave: a.Leave, Enter: slices.Concat(b.Enter)}
		out.Add, fits = grown(a.Add, b.Add)
	default:
		out = api.Path{Leave: a.Leave - kept, Add: b.Add, Enter: slices.Concat(b.Enter)}
		fits = int64(a.Leave) <= math.MaxUint32+int64(kept) // the sum itself may have wrapped around
	}
	if !fits {
		return api.Path{}, api.ErrStampOver
	}
	return out, api.OK
}

// PathLeq says whether a never comes behind where b comes, from times in that many loops.
func PathLeq(a, b api.Path, depth int) bool {
	if depth < 0 || depth > api.MaxLoops || !leaves(a, depth) || !leaves(b, depth) {
		return false
	}
	keptA, keptB := depth-a.Leave, depth-b.Leave
	reached := keptA + len(a.Enter)
	if reached > api.MaxLoops || reached != keptB+len(b.Enter) {
		return false
	}
	for i := range reached + 1 {
		keepsA, byA := at(a, keptA, i)
		keepsB, byB := at(b, keptB, i)
		// What is kept has no bound, so that no counter that is entered is behind it.
		if keepsA && !keepsB || byA > byB {
			return false
		}
	}
	return true
}

// at is what p does at position i (0: the Epoch), if it keeps so many counters: whether it keeps what is there, and the increase, or else the counter that it enters.
func at(p api.Path, kept, i int) (keeps bool, by uint32) {
	switch {
	case i > kept:
		return false, p.Enter[i-kept-1]
	case i == kept:
		return true, p.Add
	}
	return true, 0
}
