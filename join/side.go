package join

import (
	"iter"
	"slices"

	"penstock/api"
	"penstock/delta"
	"penstock/row"
)

// side is the updates of one side.
type side struct {
	cols   []int
	groups map[string]*pile // by the text forms of the columns; none is empty
}

func sideBy(cols []int) *side {
	return &side{cols: slices.Clone(cols), groups: map[string]*pile{}}
}

// arrival is a new update, and the text form of the columns by which it matches.
type arrival struct {
	api.Update
	text string
}

// noText is instead of a text form where the row lacks a column: such updates are there, but match nothing.
const noText = ""

func (s *side) text(r api.Row) string {
	picked, e := row.Pick(r, s.cols)
	if e != api.OK {
		return noText
	}
	text, _ := row.Print(picked) // of data that may not be there is none, either
	return text
}

// arrivals is l, each row and time once, in memory of its own.
func (s *side) arrivals(l []api.Update) []arrival {
	var out []arrival
	for _, u := range delta.Sum(l) {
		out = append(out, arrival{u, s.text(u.Row)})
	}
	return out
}

// matches ranges over arrivals at the other side, each of them with each update here that it matches.
func (s *side) matches(l []arrival) iter.Seq2[api.Update, api.Update] {
	return func(yield func(arrived, here api.Update) bool) {
		for _, a := range l {
			for _, u := range s.group(a.text) {
				if sameDepth(a.Time, u.Time) && !yield(a.Update, u) {
					return
				}
			}
		}
	}
}

// group is the updates whose columns have that text form.
func (s *side) group(text string) []api.Update {
	p, found := s.groups[text]
	if !found || text == noText {
		return nil
	}
	return p.updates
}

func sameDepth(a, b api.Time) bool { return len(a.Loops) == len(b.Loops) }

// add lays arrivals in.
func (s *side) add(l []arrival) {
	for _, a := range l {
		p, found := s.groups[a.text]
		if !found {
			p = &pile{least: 2}
			s.groups[a.text] = p
		}
		p.add(a.Update)
		if p.empty() {
			delete(s.groups, a.text)
		}
	}
}

// advance moves all updates to where nobody beyond since can tell them from what they were.
func (s *side) advance(since []api.Time) {
	for text, p := range s.groups {
		p.advance(since)
		if p.empty() {
			delete(s.groups, text)
		}
	}
}

// size is how many updates there are, each row and time once.
func (s *side) size() int {
	n := 0
	for _, p := range s.groups {
		n += len(p.all())
	}
	return n
}
