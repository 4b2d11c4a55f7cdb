package spine

import (
	"cmp"
	"slices"

	"penstock/api"
	"penstock/chain"
	"penstock/row"
	"penstock/stamp"
)

// batch is updates in the form of delta.Sum.
type batch struct{ updates []api.Update }

// batchOf is l as a batch, without the room that l may have behind its end.
func batchOf(l []api.Update) batch { return batch{append([]api.Update(nil), l...)} }

func (b batch) size() int { return len(b.updates) }

// due says whether b is to be merged with the batch behind it.
func (b batch) due(younger batch) bool { return b.size() <= 2*younger.size() }

// of is the updates of a row, which stand together.
func (b batch) of(r api.Row) []api.Update {
	from, _ := slices.BinarySearchFunc(b.updates, r, func(u api.Update, r api.Row) int { return row.Cmp(u.Row, r) })
	to := from
	for to < b.size() && row.Cmp(b.updates[to].Row, r) == 0 {
		to++
	}
	return b.updates[from:to]
}

// order is that of delta.Sum.
func order(a, b api.Update) int {
	return cmp.Or(row.Cmp(a.Row, b.Row), stamp.Cmp(a.Time, b.Time))
}

// pair is two batches, one behind the other, that are being merged: of each what is not yet taken.
type pair struct {
	batch   // the older one
	younger batch
	place   int          // of the older one among all batches
	taken   []api.Update // in their order
}

func pairOf(older, younger batch, place int) *pair {
	return &pair{older, younger, place, make([]api.Update, 0, older.size()+younger.size())}
}

// owed is the fuel that merging still costs: one unit for each update.
func (p *pair) owed() int { return p.size() + p.younger.size() }

// take moves the next update behind those that were taken.
func (p *pair) take() {
	from := &p.batch
	if p.size() == 0 || p.younger.size() > 0 && order(p.younger.updates[0], p.updates[0]) < 0 {
		from = &p.younger
	}
	p.taken = append(p.taken, from.updates[0])
	from.updates = from.updates[1:]
}

// merged is delta.Advance of what was taken, which is in order even then, as all times are epochs.
func (p *pair) merged(since []api.Time) batch {
	out := p.taken[:0]
	for _, u := range p.taken {
		u.Time = chain.Advance(since, u.Time)
		last := len(out) - 1
		if last >= 0 && order(out[last], u) == 0 {
			out[last].Diff += u.Diff
		} else {
			out = append(out, u)
		}
	}
	return batchOf(slices.DeleteFunc(out, func(u api.Update) bool { return u.Diff == 0 }))
}
