package share_test

import (
	"math"
	"math/rand/v2"
	"slices"
	"testing"

	"penstock/api"
	"penstock/delta"
	rowpack "penstock/row"
	"penstock/share"
)

// model is a trace as the chapter describes it: contents that are never compacted, and handles that remember all.
type model struct {
	allowed, upper uint64
	contents       []api.Update
	holders        []*holder
}

type holder struct {
	*share.Handle
	initial, held uint64
	seen          []uint64 // none, or one
	dropped       bool
	told          []api.Update // all that was answered
}

func (m *model) since() uint64 {
	out := m.allowed
	for _, h := range m.holders {
		if !h.dropped {
			out = min(out, h.held)
		}
	}
	return out
}

func (m *model) count() (n int) {
	for _, h := range m.holders {
		if !h.dropped {
			n++
		}
	}
	return n
}

func (m *model) insert(l []api.Update, upper uint64) api.Errno {
	wrong := func(u api.Update) bool { return len(u.Time.Loops) > 0 || rowpack.Check(u.Row) != api.OK }
	early := func(u api.Update) bool { return u.Time.Epoch < m.upper || u.Time.Epoch >= upper }
	switch {
	case slices.ContainsFunc(l, wrong):
		return api.ErrSpineForm
	case slices.ContainsFunc(l, early):
		return api.ErrSpineEarly
	case upper < m.upper:
		return api.ErrSpineForm
	}
	m.upper = upper
	m.contents = slices.Concat(m.contents, l)
	return api.OK
}

func (m *model) allow(since uint64) api.Errno {
	if since < m.allowed || since > m.upper {
		return api.ErrShareForm
	}
	m.allowed = since
	return api.OK
}

func (m *model) at(epoch uint64) ([]api.Counted, api.Errno) {
	switch {
	case epoch < m.since():
		return nil, api.ErrShareSince
	case epoch >= m.upper:
		return nil, api.ErrSpineEarly
	}
	return delta.At(m.contents, at(epoch)), api.OK
}

// next is what h is to answer: the bag at what it held initially, and what came later, by itself.
func (m *model) next(h *holder) ([]api.Update, uint64, api.Errno) {
	if h.dropped {
		return nil, 0, api.ErrEnded
	}
	if len(h.seen) == 0 && m.upper <= h.initial {
		return nil, h.initial, api.OK
	}
	var l []api.Update
	from := append(h.seen, h.initial+1)[0]
	if len(h.seen) == 0 {
		for _, c := range delta.At(m.contents, at(h.initial)) {
			l = append(l, api.Update{Row: c.Row, Time: at(h.initial), Diff: c.Count})
		}
	}
	for _, u := range m.contents {
		if u.Time.Epoch >= from {
			l = append(l, u)
		}
	}
	h.seen = []uint64{m.upper}
	return delta.Sum(l), m.upper, api.OK
}

func (h *holder) allow(since uint64) api.Errno {
	switch {
	case h.dropped:
		return api.ErrEnded
	case since < h.held || len(h.seen) > 0 && since >= h.seen[0] || len(h.seen) == 0 && since > h.initial:
		return api.ErrShareForm
	}
	h.held = since
	return api.OK
}

// dice draws what is inserted and asked; the same each time.
type dice struct{ *rand.Rand }

func seeded(n uint64) dice { return dice{rand.New(rand.NewPCG(12, n))} }

func (d dice) row() api.Row {
	some := row(null(), num(0), num(1), num(-3), text(""), text("a"))
	out := api.Row{}
	for range d.IntN(3) {
		out = append(out, some[d.IntN(len(some))])
	}
	return out
}

func (d dice) diff() int64 {
	if d.IntN(20) == 0 {
		return []int64{math.MinInt64, math.MaxInt64, 1 << 62}[d.IntN(3)]
	}
	return int64(d.IntN(5) - 2)
}

// around is an epoch near to n.
func (d dice) around(n uint64) uint64 { return max(n+d.Uint64N(5), 2) - 2 }

// batch is updates from one epoch on, and below another one, and at times one of any other epoch, or one that may not be.
func (d dice) batch(from, to uint64) (l []api.Update) {
	for range d.IntN(6) {
		if from < to {
			l = append(l, api.Update{Row: d.row(), Time: at(from + d.Uint64N(to-from)), Diff: d.diff()})
		}
	}
	if d.IntN(6) > 0 {
		return l
	}
	u := api.Update{Row: d.row(), Time: at(d.around(from)), Diff: 1}
	switch d.IntN(3) {
	case 0:
		u.Time.Loops = []uint32{0}
	case 1:
		u.Row = row(api.Datum{Kind: 7})
	}
	return slices.Insert(l, d.IntN(len(l)+1), u)
}

// readsAsModel lets h be asked, and holds all that it has told together against the contents.
func readsAsModel(t *testing.T, m *model, h *holder) {
	t.Helper()
	want, upper, f := m.next(h)
	l, n, e := h.Next()
	if e != f || n != upper || !sameUpdates(l, want) {
		t.Fatalf("Next() = %v, %d, %v, want %v, %d, %v", l, n, e, want, upper, f)
	}
	h.told = append(h.told, l...)
	if len(h.seen) == 0 {
		return
	}
	for epoch := h.initial; epoch < h.seen[0]; epoch++ {
		if a, b := delta.At(h.told, at(epoch)), delta.At(m.contents, at(epoch)); !sameBag(a, b) {
			t.Fatalf("%v is told at %d, where %v is", a, epoch, b)
		}
	}
}

// sameAsModel holds all that can be asked against the model.
func sameAsModel(t *testing.T, s *share.Trace, m *model) {
	t.Helper()
	stands(t, s, m.since(), m.upper, m.count())
	for epoch := range m.upper + 2 {
		want, f := m.at(epoch)
		if l, e := s.At(epoch); e != f || !sameBag(l, want) {
			t.Fatalf("At(%d) = %v, %v, want %v, %v", epoch, l, e, want, f)
		}
	}
	for _, h := range m.holders {
		holds(t, h.Handle, h.held)
	}
}

// shared lets a handle begin, by chance.
func shared(t *testing.T, s *share.Trace, m *model, d dice) {
	t.Helper()
	epoch := d.around(m.since() + d.Uint64N(m.upper-min(m.since(), m.upper)+1))
	if epoch < m.since() {
		refusesToShare(t, s, epoch)
		return
	}
	m.holders = append(m.holders, &holder{Handle: hold(t, s, epoch), initial: epoch, held: epoch})
}

// act does one thing by chance with both.
func act(t *testing.T, s *share.Trace, m *model, d dice) {
	t.Helper()
	switch x := d.IntN(10); {
	case x < 3:
		to := max(m.upper+d.Uint64N(5), 1) - 1
		l := d.batch(m.upper, to)
		inserts(t, s, l, to, m.insert(l, to))
	case x < 4:
		s.Work(d.IntN(12))
	case x < 5:
		since := d.around(max(m.allowed, min(m.upper, m.allowed+d.Uint64N(4))))
		allows(t, s, since, m.allow(since))
	case x < 6:
		shared(t, s, m, d)
	case len(m.holders) == 0:
	case x < 8:
		readsAsModel(t, m, m.holders[d.IntN(len(m.holders))])
	case x < 9 || d.IntN(3) > 0:
		h := m.holders[d.IntN(len(m.holders))]
		since := d.around(h.held + d.Uint64N(3))
		allows(t, h.Handle, since, h.allow(since))
	default:
		h := m.holders[d.IntN(len(m.holders))]
		h.Drop()
		h.dropped = true
	}
}

func TestTraceIsThatOfThePlainModel(t *testing.T) {
	d := seeded(1)
	for range 80 {
		s, m := share.New(), &model{}
		for range 100 {
			act(t, s, m, d)
			sameAsModel(t, s, m)
		}
		for _, h := range m.holders {
			readsAsModel(t, m, h)
		}
	}
}

// Two handles of one epoch, one of which is asked all the time: what they have told at last comes to the same.
func TestDivisionOfReading(t *testing.T) {
	d := seeded(2)
	for range 200 {
		s := share.New()
		first := d.Uint64N(4)
		often, once := hold(t, s, first), hold(t, s, first)
		var told []api.Update
		for range 20 {
			insert(t, s, s.Upper()+2, up(int64(d.IntN(3)), s.Upper()+d.Uint64N(2), d.diff()))
			allows(t, s, s.Upper(), api.OK)
			s.Work(d.IntN(9))
			l, upper, _ := often.Next()
			told = append(told, l...)
			if s.Upper() > first {
				allows(t, often, upper-1, api.OK)
			}
		}
		if l, _, e := once.Next(); e != api.OK || !sameUpdates(l, delta.Sum(told)) {
			t.Fatalf("%v was told at once, %v bit by bit", l, delta.Sum(told))
		}
	}
}
