package spine_test

import (
	"runtime"
	"slices"
	"strings"
	"testing"
	"unsafe"

	"penstock/api"
	"penstock/spine"
)

// roomyTime is t, with counters behind the end of those that it has: none.
func roomyTime(t api.Time) api.Time {
	t.Loops = append(slices.Clone(t.Loops), 0, 80)[:len(t.Loops)]
	return t
}

func roomyTimes(l ...api.Time) []api.Time {
	for i, t := range l {
		l[i] = roomyTime(t)
	}
	return append(l, at(99, 9))[:len(l)]
}

// roomy is updates below the epoch 4; each list has more behind its end, which is no part of it.
func roomy() []api.Update {
	l := updates(up(1, 2, 1), of(at(1), 1, text("abc"), num(1)), of(at(0), 1), of(at(3), 2, text("abc"), num(1)), up(1, 2, 1), up(3, 1, 1), up(3, 1, -1))
	for i, u := range l {
		l[i].Row = append(slices.Clone(u.Row), num(70), null())[:len(u.Row)]
		l[i].Time = roomyTime(u.Time)
	}
	return append(l, of(at(2, 2), 5, text("behind")))[:len(l)]
}

// memory is all lists of what is given or answered, with what is behind their ends.
type memory struct {
	updates [][]api.Update
	times   [][]api.Time
	bags    [][]api.Counted
	changes [][]api.Change
	sizes   [][]int
	rows    []api.Row
	loops   [][]uint32
}

func (m *memory) addRow(r api.Row) { m.rows = append(m.rows, r[:cap(r)]) }

func (m *memory) addTime(t api.Time) { m.loops = append(m.loops, t.Loops[:cap(t.Loops)]) }

func (m *memory) addUpdates(l []api.Update) {
	l = l[:cap(l)]
	m.updates = append(m.updates, l)
	for _, u := range l {
		m.addRow(u.Row)
		m.addTime(u.Time)
	}
}

func (m *memory) addTimes(l []api.Time) {
	l = l[:cap(l)]
	m.times = append(m.times, l)
	for _, t := range l {
		m.addTime(t)
	}
}

func (m *memory) addBag(l []api.Counted) {
	l = l[:cap(l)]
	m.bags = append(m.bags, l)
	for _, c := range l {
		m.addRow(c.Row)
	}
}

func (m *memory) addChanges(l []api.Change) {
	l = l[:cap(l)]
	m.changes = append(m.changes, l)
	for _, c := range l {
		m.addTime(c.Time)
	}
}

// spoil overwrites all of it.
func (m *memory) spoil() {
	overwrite(m.loops, 999)
	overwrite(m.rows, text("spoilt"))
	overwrite(m.updates, of(at(999, 9), 9, text("spoilt")))
	overwrite(m.times, at(999, 9))
	overwrite(m.bags, counted(9, text("spoilt")))
	overwrite(m.changes, api.Change{Time: at(999, 9), Diff: 9})
	overwrite(m.sizes, 999)
}

func overwrite[T any, S ~[]T](lists []S, x T) {
	for _, l := range lists {
		for i := range l {
			l[i] = x
		}
	}
}

func same(a, b memory) bool {
	return slices.EqualFunc(a.updates, b.updates, sameUpdates) && slices.EqualFunc(a.times, b.times, sameTimes) &&
		slices.EqualFunc(a.bags, b.bags, sameBag) && slices.EqualFunc(a.changes, b.changes, sameChanges) &&
		slices.EqualFunc(a.sizes, b.sizes, slices.Equal) && slices.EqualFunc(a.rows, b.rows, slices.Equal) && slices.EqualFunc(a.loops, b.loops, slices.Equal)
}

func overlap[T any](a, b []T) bool {
	if unsafe.SliceData(a) == unsafe.SliceData(b) && a != nil {
		return true
	}
	for i := range a {
		for k := range b {
			if &a[i] == &b[k] {
				return true
			}
		}
	}
	return false
}

func anyOverlap[T any, S ~[]T](a, b []S, within bool) bool {
	for i := range a {
		for k := range b {
			if !(within && i == k) && len(a[i])+len(b[k]) > 0 && overlap(a[i], b[k]) {
				return true
			}
		}
	}
	return false
}

// shares says whether something of a is in the memory of b; of two different lists of it, if within.
func shares(a, b memory, within bool) bool {
	return anyOverlap(a.updates, b.updates, within) || anyOverlap(a.times, b.times, within) || anyOverlap(a.bags, b.bags, within) ||
		anyOverlap(a.changes, b.changes, within) || anyOverlap(a.sizes, b.sizes, within) || anyOverlap(a.rows, b.rows, within) || anyOverlap(a.loops, b.loops, within)
}

// answered is what all calls that tell something answer.
func answered(s *spine.Spine) memory {
	var m memory
	m.addTimes(s.Since())
	m.addTimes(s.Upper())
	m.addUpdates(s.All())
	m.addChanges(s.Row(row(text("abc"), num(1))))
	l, _ := s.At(at(3))
	m.addBag(l)
	n := s.Sizes()
	m.sizes = append(m.sizes, n[:cap(n)])
	return m
}

// given is the arguments of filled.
type given struct {
	l            []api.Update
	upper, since []api.Time
}

func arguments() given {
	return given{roomy(), roomyTimes(at(4)), roomyTimes(at(1))}
}

func (g given) memory() (m memory) {
	m.addUpdates(g.l)
	m.addTimes(g.upper)
	m.addTimes(g.since)
	return m
}

// filled is a spine that was given g, and has been worked on, with a pair that is being merged.
func filled(t *testing.T, g given) *spine.Spine {
	t.Helper()
	s := spine.New()
	inserts(t, s, g.l, g.upper, api.OK)
	insert(t, s, 5, up(1, 4, 1), up(4, 4, 1), up(5, 4, 1))
	compacts(t, s, g.since, api.OK)
	inserts(t, s, g.l, g.upper, api.ErrSpineEarly)
	works(t, s, 3, 0)
	return s
}

func TestArgumentsAreAsTheyWere(t *testing.T) {
	g := arguments()
	s := filled(t, g)
	works(t, s, 100, 96)
	compacts(t, s, roomyTimes(at(0)), api.ErrSpineEarly)
	if !same(g.memory(), arguments().memory()) {
		t.Errorf("arguments have changed: %v", g)
	}
	r := append(row(text("abc"), num(1)), num(70))[:2]
	s.Row(r)
	x := roomyTime(at(3))
	s.At(x)
	if r = r[:3]; !slices.Equal(r, row(text("abc"), num(1), num(70))) || !slices.Equal(x.Loops[:2], []uint32{0, 80}) {
		t.Errorf("arguments have changed: %v, %v", r, x)
	}
}

// The spine is as it was, whatever becomes of what it was given and of what it answered.
func TestNothingIsShared(t *testing.T) {
	for _, fuel := range []int{0, 2, 4} {
		g := arguments()
		s := filled(t, g)
		s.Work(fuel)
		first, second := answered(s), answered(s)
		switch mine := g.memory(); {
		case shares(first, second, false):
			t.Error("two answers share memory")
		case shares(first, first, true):
			t.Error("two lists that were answered share memory")
		case shares(first, mine, false):
			t.Error("an answer shares memory with an argument")
		default:
			first.spoil()
			mine.spoil()
		}
		other := filled(t, arguments())
		other.Work(fuel)
		if !same(second, answered(other)) || !same(answered(s), answered(other)) {
			t.Errorf("the spine has changed: %v", answered(s))
		}
		s.Work(100)
		other.Work(100)
		if !same(answered(s), answered(other)) {
			t.Errorf("the spine has changed: %v", answered(s))
		}
	}
}

// One list, filled anew for each call.
func TestOneListForAllCalls(t *testing.T) {
	s := spine.New()
	l, upper := updates(of(at(0), 1, num(0), text("x"))), list(at(0))
	for i := range 9 {
		l[0].Row[0], l[0].Time.Epoch, upper[0].Epoch = num(int64(i)), uint64(i), uint64(i+1)
		inserts(t, s, l, upper, api.OK)
		works(t, s, 1, max(0, 1-i))
	}
	var want []api.Update
	for i := range 9 {
		want = append(want, of(at(uint64(i)), 1, num(int64(i)), text("x")))
	}
	all(t, s, want...)
	stands(t, s, list(at(0)), list(at(9)))
	upper[0] = at(4)
	compacts(t, s, upper, api.OK)
	upper[0] = at(7)
	stands(t, s, list(at(4)), list(at(9)))
}

// Texts are part of a row: they do not stay in the memory of what was given, nor of what is kept.
func TestTextsAreNewMemory(t *testing.T) {
	whole := strings.Repeat("abc", 1000)
	s := spine.New()
	insert(t, s, 1, of(at(0), 1, text(whole[5:10])))
	var places []*byte
	for range 2 {
		l, _ := s.At(at(0))
		for _, r := range []api.Row{s.All()[0].Row, l[0].Row} {
			if r[0].Text != whole[5:10] {
				t.Fatalf("%q", r[0].Text)
			}
			places = append(places, unsafe.StringData(r[0].Text))
		}
	}
	places = append(places, unsafe.StringData(whole[5:10]))
	for i, p := range places {
		if slices.Contains(places[:i], p) {
			t.Error("two texts are in the same memory")
		}
	}
}

func heap() uint64 {
	var m runtime.MemStats
	runtime.GC()
	runtime.ReadMemStats(&m)
	return m.HeapAlloc
}

// What the updates of a batch, or of a merged one, have combined is not kept.
func TestWhatIsCombinedIsNotKept(t *testing.T) {
	const size = 100000
	var cancelled, first, second []api.Update
	for i := range int64(size) {
		cancelled = append(cancelled, up(i, 0, 1), up(i, 0, -1))
		first = append(first, up(7, uint64(i), 1))
		second = append(second, up(7, uint64(size+i), 1))
	}
	s := spine.New()
	before := heap()
	insert(t, s, size, append(cancelled, up(1, 0, 1))...)
	if after := heap(); after > before+size {
		t.Errorf("the heap grew from %d to %d, for one update", before, after)
	}
	sizes(t, s, 1)

	s = spine.New()
	insert(t, s, size, first...)
	insert(t, s, 2*size, second...)
	compacts(t, s, list(at(3*size)), api.OK)
	if after := heap(); after < before+2*64*size {
		t.Errorf("the heap grew from %d to %d: updates lack", before, after)
	}
	works(t, s, 2*size, 0)
	sizes(t, s, 1)
	if after := heap(); after > before+size {
		t.Errorf("the heap grew from %d to %d, for one update", before, after)
	}
	all(t, s, up(7, 3*size, 2*size))
	runtime.KeepAlive(cancelled)
	runtime.KeepAlive(first)
	runtime.KeepAlive(second)
}
