package join

import (
	"slices"

	"penstock/api"
	"penstock/delta"
)

// pile is updates that are combined whenever they have doubled: adding one costs little, however many there are, and what comes to nothing does not stay.
type pile struct {
	updates  []api.Update
	combined int // how many there were, in the form of delta.Sum, when they were combined last
	least    int // fewer are not worth combining
}

func (p *pile) add(u api.Update) {
	p.updates = append(p.updates, u)
	if n := len(p.updates); n >= p.least && n >= 2*p.combined {
		p.become(delta.Sum(p.updates))
	}
}

// become makes l, which is in the form of delta.Sum, the updates, without the room that l may have behind its end.
func (p *pile) become(l []api.Update) { p.updates, p.combined = slices.Clone(l), len(l) }

func (p *pile) advance(since []api.Time) { p.become(delta.Advance(p.updates, since)) }

// all is the updates in the form of delta.Sum.
func (p *pile) all() []api.Update {
	if p.combined < len(p.updates) {
		p.become(delta.Sum(p.updates))
	}
	return p.updates
}

// empty says whether the updates come to nothing: it takes as many as were combined to undo these, and then all are combined anew.
func (p *pile) empty() bool { return len(p.updates) == 0 }
