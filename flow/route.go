package flow

import (
	"slices"

	"penstock/api"
	"penstock/stamp"
)

// step is what routes consist of: an inner path or an edge.
type step struct {
	from, to api.Port
	path     api.Path
	level    int // the innermost position that path keeps; 0: the Epoch
}

func stepsOf(g api.Graph) []step {
	var out []step
	for i, n := range g.Nodes {
		for _, x := range n.Inner {
			from, to := api.Port{Node: i, Port: x.In}, api.Port{Node: i, Out: true, Port: x.Out}
			out = append(out, step{from: from, to: to, path: x.Path, level: n.Depth - x.Path.Leave})
		}
	}
	for _, e := range g.Edges {
		out = append(out, step{from: e.From, to: e.To, level: depthAt(g, e.From)})
	}
	return out
}

func byStart(steps []step) map[api.Port][]step {
	out := map[api.Port][]step{}
	for _, s := range steps {
		out[s.from] = append(out[s.from], s)
	}
	return out
}

// arrival is the end of a route, and its path.
type arrival struct {
	at   api.Port
	path api.Path
}

// follow is the least paths of all routes from a place, with the one that has no steps, to each place that they reach. It gives up where a route comes back to its start without increasing the time; then idle is true.
//
// What is not least is not followed: where Then errs behind the least path, it errs behind the others.
func follow(onward map[api.Port][]step, from api.Port, depth int) (least map[api.Port][]api.Path, idle bool) {
	least = map[api.Port][]api.Path{from: {{}}}
	work := []arrival{{at: from}}
walk:
	for len(work) > 0 {
		x := work[0]
		work = work[1:]
		if !contains(least[x.at], x.path) { // a lesser one has come since
			continue
		}
		for _, s := range onward[x.at] {
			p, e := stamp.Then(x.path, s.path)
			if e != api.OK {
				continue
			}
			if s.to == from && stamp.PathLeq(p, api.Path{}, depth) {
				idle = true
				break walk
			}
			if l, fresh := insert(least[s.to], p, depth); fresh {
				least[s.to] = l
				work = append(work, arrival{s.to, p})
			}
		}
	}
	return least, idle
}

func contains(l []api.Path, p api.Path) bool {
	return slices.ContainsFunc(l, func(q api.Path) bool {
		return q.Leave == p.Leave && q.Add == p.Add && slices.Equal(q.Enter, p.Enter)
	})
}

// insert is l with p, if that is a least path there, and without what p is less than.
func insert(l []api.Path, p api.Path, depth int) ([]api.Path, bool) {
	if slices.ContainsFunc(l, func(q api.Path) bool { return stamp.PathLeq(q, p, depth) }) {
		return l, false
	}
	l = slices.DeleteFunc(l, func(q api.Path) bool { return stamp.PathLeq(p, q, depth) })
	return append(l, p), true
}
