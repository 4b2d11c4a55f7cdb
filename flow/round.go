package flow

import (
	"maps"
	"slices"

	"penstock/api"
)

// stalls says whether a route leads from an input back to it without increasing the time.
//
// Such a route has an outermost position that it changes, and adds nothing there. So it is a round of what is left without the steps that do.
func stalls(steps []step) bool {
	steps = slices.Concat(rounds(steps)...)
	if len(rounds(those(steps, step.keepsAll))) > 0 { // what comes back to its depth has entered nothing
		return true
	}
	for level := range api.MaxLoops + 1 {
		left := those(steps, func(s step) bool { return s.level > level || s.level == level && s.path.Add == 0 })
		for _, group := range rounds(left) {
			if slices.ContainsFunc(group, func(s step) bool { return s.level == level }) && comesBack(group) {
				return true
			}
		}
	}
	return false
}

// comesBack says whether a route of steps leads back to its start without increasing the time; one whose steps all keep all need not be found.
//
// The last inner path of such a route adds nothing, and enters only 0. Where it keeps all, the route may as well begin ahead of it: so it is enough to begin behind the others.
func comesBack(steps []step) bool {
	onward := byStart(steps)
	tried := map[api.Port]int{}
	for _, s := range steps {
		if s.keepsAll() || !s.clears() {
			continue
		}
		for _, edge := range onward[s.to] {
			tried[edge.to]++
			if tried[edge.to] > 1 {
				continue
			}
			if _, idle := follow(onward, edge.to, edge.level); idle {
				return true
			}
		}
	}
	return false
}

// keepsAll says whether all positions are behind s what they were ahead of it.
func (s step) keepsAll() bool { return s.path.Leave == 0 && s.path.Add == 0 }

// clears says whether s adds nothing, and enters only 0.
func (s step) clears() bool {
	return s.path.Add == 0 && !slices.ContainsFunc(s.path.Enter, func(n uint32) bool { return n > 0 })
}

func those(steps []step, is func(step) bool) []step {
	var out []step
	for _, s := range steps {
		if is(s) {
			out = append(out, s)
		}
	}
	return out
}

// rounds is the steps that lie on rounds; those that lie on a common one are in one group.
func rounds(steps []step) [][]step {
	s := search{onward: byStart(steps), met: map[api.Port]int{}, group: map[api.Port]int{}}
	groups := map[int][]step{}
	for _, x := range steps {
		if s.met[x.from] == 0 {
			s.visit(x.from)
		}
		if g := s.group[x.from]; g == s.group[x.to] {
			groups[g] = append(groups[g], x)
		}
	}
	var out [][]step
	for _, g := range slices.Sorted(maps.Keys(groups)) {
		out = append(out, groups[g])
	}
	return out
}

// search finds which places lead to one another.
type search struct {
	onward map[api.Port][]step
	met    map[api.Port]int // when each place was met, from 1 on
	group  map[api.Port]int // when the first one of those that lead to one another was met
	open   []api.Port       // those that have no group yet
}

// visit is the number of the first open place that p leads to. All that p leads to is visited; if p leads to none ahead of it, it and what is open behind it are a group.
func (s *search) visit(p api.Port) int {
	own, begin := len(s.met)+1, len(s.open)
	s.met[p] = own
	s.open = append(s.open, p)
	first := own
	for _, x := range s.onward[p] {
		switch {
		case s.met[x.to] == 0:
			first = min(first, s.visit(x.to))
		case s.group[x.to] == 0:
			first = min(first, s.met[x.to])
		}
	}
	if first == own {
		for _, q := range s.open[begin:] {
			s.group[q] = own
		}
		s.open = s.open[:begin]
	}
	return first
}
