package spine_test

import (
	"math"
	"math/rand/v2"
	"slices"
	"testing"

	"penstock/api"
	"penstock/chain"
	"penstock/delta"
	rowpack "penstock/row"
	"penstock/spine"
)

// model is a spine as the chapter describes it: contents that are never merged, and batches beside them, of which the spine tells the sizes alone.
type model struct {
	since, upper []api.Time
	contents     []api.Update
	batches      [][]api.Update
	place        int // of the pair that is being merged
	owed         int // 0: none is
}

func newModel() *model { return &model{since: list(at(0)), upper: list(at(0))} }

func frontier(l []api.Time) bool { return len(l) < 2 && (len(l) == 0 || len(l[0].Loops) == 0) }

func (m *model) insert(l []api.Update, upper []api.Time) api.Errno {
	wrong := func(u api.Update) bool { return len(u.Time.Loops) > 0 || rowpack.Check(u.Row) != api.OK }
	early := func(u api.Update) bool { return !chain.Beyond(m.upper, u.Time) || chain.Beyond(upper, u.Time) }
	switch {
	case slices.ContainsFunc(l, wrong) || !frontier(upper):
		return api.ErrSpineForm
	case slices.ContainsFunc(l, early):
		return api.ErrSpineEarly
	case !chain.Leq(m.upper, upper):
		return api.ErrSpineForm
	}
	m.upper = upper
	m.contents = slices.Concat(m.contents, l)
	if sum := delta.Sum(l); len(sum) > 0 {
		m.batches = append(m.batches, sum)
	}
	return api.OK
}

func (m *model) begin() bool {
	for i := len(m.batches) - 2; i >= 0 && m.owed == 0; i-- {
		if a, b := len(m.batches[i]), len(m.batches[i+1]); a <= 2*b {
			m.place, m.owed = i, a+b
		}
	}
	return m.owed > 0
}

func (m *model) work(fuel int) int {
	for ; fuel > 0 && m.begin(); fuel-- {
		m.owed--
		if m.owed > 0 {
			continue
		}
		i := m.place
		merged := delta.Advance(slices.Concat(m.batches[i], m.batches[i+1]), m.since)
		m.batches = slices.Delete(m.batches, i, i+2)
		if len(merged) > 0 {
			m.batches = slices.Insert(m.batches, i, merged)
		}
	}
	return max(fuel, 0)
}

func (m *model) compact(since []api.Time) api.Errno {
	if !frontier(since) {
		return api.ErrSpineForm
	}
	if !chain.Leq(m.since, since) {
		return api.ErrSpineEarly
	}
	m.since = since
	return api.OK
}

func (m *model) at(t api.Time) ([]api.Counted, api.Errno) {
	switch {
	case len(t.Loops) > 0:
		return nil, api.ErrSpineForm
	case !chain.Beyond(m.since, t) || chain.Beyond(m.upper, t):
		return nil, api.ErrSpineEarly
	}
	return delta.At(m.contents, t), api.OK
}

func (m *model) all() []api.Update {
	if len(m.since) == 0 {
		return nil
	}
	return delta.Advance(m.contents, m.since)
}

func (m *model) row(r api.Row) []api.Change {
	var out []api.Change
	for _, u := range m.all() {
		if rowpack.Cmp(u.Row, r) == 0 {
			out = append(out, api.Change{Time: u.Time, Diff: u.Diff})
		}
	}
	return out
}

func (m *model) sizes() []int {
	var out []int
	for _, b := range m.batches {
		out = append(out, len(b))
	}
	return out
}

// dice draws what is inserted and asked; the same each time.
type dice struct{ *rand.Rand }

func seeded(n uint64) dice { return dice{rand.New(rand.NewPCG(11, n))} }

func (d dice) row() api.Row {
	some := row(null(), truth(false), num(0), num(1), num(-3), text(""), text("a"), text("b"))
	out := api.Row{}
	for range d.IntN(3) {
		out = append(out, some[d.IntN(len(some))])
	}
	return out
}

func (d dice) diff() int64 {
	if d.IntN(20) == 0 {
		return []int64{math.MinInt64, math.MaxInt64, 1 << 62}[d.IntN(3)]
	}
	return int64(d.IntN(5) - 2)
}

// between is updates from one epoch on, and below another one.
func (d dice) between(from, to uint64, n int) []api.Update {
	var l []api.Update
	for range d.IntN(n + 1) {
		if from < to {
			l = append(l, api.Update{Row: d.row(), Time: at(from + d.Uint64N(to-from)), Diff: d.diff()})
		}
	}
	return l
}

// wrong is l, with something in it that may not be.
func (d dice) wrong(l []api.Update) []api.Update {
	u := api.Update{Row: d.row(), Time: at(d.Uint64N(40)), Diff: 1}
	switch d.IntN(4) {
	case 0:
		u.Time.Loops = []uint32{0}
	case 1:
		u.Row = row(api.Datum{Kind: 7})
	case 2:
		u.Row = row(text("\xc3"))
	}
	return slices.Insert(l, d.IntN(len(l)+1), u)
}

func epochOf(l []api.Time) uint64 {
	if len(l) == 0 {
		return math.MaxUint64
	}
	return l[0].Epoch
}

// sameAsModel holds all that a spine answers against the model.
func sameAsModel(t *testing.T, s *spine.Spine, m *model, d dice) {
	t.Helper()
	stands(t, s, m.since, m.upper)
	sizes(t, s, m.sizes()...)
	all(t, s, m.all()...)
	x := at(d.Uint64N(min(epochOf(m.upper), 60) + 3))
	if d.IntN(9) == 0 {
		x.Loops = []uint32{1}
	}
	want, e := m.at(x)
	if l, f := s.At(x); f != e || !sameBag(l, want) {
		t.Fatalf("At(%v) = %v, %v, want %v, %v", x, l, f, want, e)
	}
	r := d.row()
	rows(t, s, r, m.row(r)...)
}

// act does one thing by chance with both.
func act(t *testing.T, s *spine.Spine, m *model, d dice) {
	t.Helper()
	switch d.IntN(8) {
	case 0, 1, 2:
		to := epochOf(m.upper) + d.Uint64N(4)
		l, upper := d.between(epochOf(m.upper), to, 6), list(at(to))
		if d.IntN(6) == 0 {
			l = d.wrong(l)
		}
		if d.IntN(10) == 0 {
			upper = [][]api.Time{list(at(d.Uint64N(40))), list(at(to, 1)), list(at(to), at(to+1))}[d.IntN(3)]
		}
		inserts(t, s, l, upper, m.insert(l, upper))
	case 3:
		since := list(at(epochOf(m.since) + d.Uint64N(4)))
		if d.IntN(4) == 0 {
			since = [][]api.Time{list(at(d.Uint64N(40))), list(at(50, 1)), list(at(50), at(51))}[d.IntN(3)]
		}
		compacts(t, s, since, m.compact(since))
	default:
		fuel := d.IntN(8) - 1
		if d.IntN(10) == 0 {
			fuel = 100
		}
		works(t, s, fuel, m.work(fuel))
	}
}

func TestSpineIsThatOfThePlainModel(t *testing.T) {
	d := seeded(1)
	for range 300 {
		s, m := spine.New(), newModel()
		for range 60 {
			act(t, s, m, d)
			sameAsModel(t, s, m, d)
		}
		if d.IntN(3) == 0 {
			compacts(t, s, nil, m.compact(nil))
		}
		last := d.between(epochOf(m.upper), epochOf(m.upper)+9, 9)
		inserts(t, s, last, nil, m.insert(last, nil))
		for range 20 {
			fuel := d.IntN(50)
			works(t, s, fuel, m.work(fuel))
			sameAsModel(t, s, m, d)
		}
	}
}

// The same is inserted into two spines; on one of them is worked, and it is compacted bit by bit.
func TestAnswersDoNotDependOnWork(t *testing.T) {
	d := seeded(2)
	for range 200 {
		idle, busy := spine.New(), spine.New()
		upper, since := uint64(0), uint64(0)
		for range 30 {
			to := upper + d.Uint64N(3)
			l := d.between(upper, to, 8)
			upper = to
			insert(t, idle, upper, l...)
			insert(t, busy, upper, l...)
			busy.Work(d.IntN(40))
			if d.IntN(4) == 0 {
				since += d.Uint64N(5)
				compacts(t, busy, list(at(since)), api.OK)
				busy.Work(d.IntN(40))
			}
		}
		compacts(t, idle, list(at(since)), api.OK)
		all(t, busy, idle.All()...)
		for epoch := since; epoch < upper; epoch++ {
			want, _ := idle.At(at(epoch))
			there(t, busy, epoch, want...)
		}
		for range 20 {
			r := d.row()
			rows(t, busy, r, idle.Row(r)...)
		}
	}
}

// The same updates, divided differently into calls, in another order.
func TestAnswersDoNotDependOnDivision(t *testing.T) {
	d := seeded(3)
	for range 200 {
		const end = 12
		l := d.between(0, end, 60)
		once, often := spine.New(), spine.New()
		insert(t, once, end, l...)
		d.Shuffle(len(l), func(i, j int) { l[i], l[j] = l[j], l[i] })
		for from := uint64(0); from < end; {
			to := min(from+1+d.Uint64N(4), end)
			part := slices.DeleteFunc(slices.Clone(l), func(u api.Update) bool { return u.Time.Epoch < from || u.Time.Epoch >= to })
			insert(t, often, to, part...)
			often.Work(d.IntN(30))
			from = to
		}
		all(t, often, once.All()...)
		for epoch := range uint64(end) {
			want, _ := once.At(at(epoch))
			there(t, often, epoch, want...)
		}
	}
}

// With enough fuel, whatever was inserted, each batch is more than twice as large as the next one.
func TestBatchesAreFewByChance(t *testing.T) {
	d := seeded(4)
	for range 100 {
		s, upper := spine.New(), uint64(0)
		for range 40 {
			insert(t, s, upper+3, d.between(upper, upper+3, 1+d.IntN(40))...)
			upper += 3
			if d.IntN(3) == 0 {
				compacts(t, s, list(at(upper)), api.OK)
			}
			s.Work(d.IntN(20))
		}
		if left := s.Work(math.MaxInt); left == 0 {
			t.Fatal("all fuel was used up")
		}
		l := s.Sizes()
		for i := range len(l) - 1 {
			if l[i] <= 2*l[i+1] || l[i+1] < 1 {
				t.Fatalf("batches of %v", l)
			}
		}
	}
}
