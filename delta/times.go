package delta

import (
	"slices"

	"penstock/api"
	"penstock/stamp"
)

// most is how many different times updates may have whose joins are still told.
const most = 200

// times is a list that grows, each time once.
type times struct {
	list []api.Time
	seen map[string]struct{} // by text forms
}

func (l *times) add(t api.Time) {
	key := stamp.Print(t)
	if _, found := l.seen[key]; !found {
		l.seen[key] = struct{}{}
		l.list = append(l.list, t)
	}
}

// join adds t, and all joins of it with what is there.
func (l *times) join(t api.Time) {
	for _, x := range l.list { // what comes behind meanwhile is joined with t already
		if j, e := stamp.Join(x, t); e == api.OK {
			l.add(j)
		}
	}
	l.add(t)
}

// Times are all times of updates, and all that come of joining them.
func Times(l []api.Update) []api.Time {
	own := times{seen: map[string]struct{}{}}
	for _, u := range l {
		own.add(u.Time)
		if len(own.list) > most {
			return nil
		}
	}
	all := times{seen: map[string]struct{}{}}
	for _, t := range own.list {
		all.join(freshTime(t))
	}
	slices.SortFunc(all.list, stamp.Cmp)
	return all.list
}
