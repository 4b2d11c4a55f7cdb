package share_test

import (
	"runtime"
	"slices"
	"strings"
	"testing"
	"unsafe"

	"penstock/api"
	"penstock/share"
)

// roomy is updates below the epoch 4; each list has more behind its end, which is no part of it.
func roomy() []api.Update {
	l := updates(up(1, 2, 1), of(at(1), 1, text("abc"), num(1)), of(at(0), 1), of(at(3), 2, text("abc"), num(1)), up(1, 2, 1), up(3, 1, 1), up(3, 1, -1))
	for i, u := range l {
		l[i].Row = append(slices.Clone(u.Row), num(70), null())[:len(u.Row)]
		l[i].Time.Loops = append(slices.Clone(u.Time.Loops), 0, 80)[:0]
	}
	return append(l, of(at(2, 2), 5, text("behind")))[:len(l)]
}

// memory is all lists of what is given or answered, with what is behind their ends.
type memory struct {
	updates [][]api.Update
	bags    [][]api.Counted
	rows    []api.Row
	loops   [][]uint32
}

func (m *memory) addUpdates(l []api.Update) {
	l = l[:cap(l)]
	m.updates = append(m.updates, l)
	for _, u := range l {
		m.rows = append(m.rows, u.Row[:cap(u.Row)])
		m.loops = append(m.loops, u.Time.Loops[:cap(u.Time.Loops)])
	}
}

func (m *memory) addBag(l []api.Counted) {
	l = l[:cap(l)]
	m.bags = append(m.bags, l)
	for _, c := range l {
		m.rows = append(m.rows, c.Row[:cap(c.Row)])
	}
}

// spoil overwrites all of it.
func (m *memory) spoil() {
	overwrite(m.loops, 999)
	overwrite(m.rows, text("spoilt"))
	overwrite(m.updates, of(at(999, 9), 9, text("spoilt")))
	overwrite(m.bags, counted(9, text("spoilt")))
}

func overwrite[T any, S ~[]T](lists []S, x T) {
	for _, l := range lists {
		for i := range l {
			l[i] = x
		}
	}
}

func same(a, b memory) bool {
	return slices.EqualFunc(a.updates, b.updates, sameUpdates) && slices.EqualFunc(a.bags, b.bags, sameBag) &&
		slices.EqualFunc(a.rows, b.rows, slices.Equal) && slices.EqualFunc(a.loops, b.loops, slices.Equal)
}

func anyOverlap[T any, S ~[]T](a, b []S, within bool) bool {
	for i := range a {
		for k := range b {
			if !(within && i == k) && overlap(a[i], b[k]) {
				return true
			}
		}
	}
	return false
}

func overlap[T any](a, b []T) bool {
	for i := range a {
		for k := range b {
			if &a[i] == &b[k] {
				return true
			}
		}
	}
	return false
}

// shares says whether something of a is in the memory of b; of two different lists of it, if within.
func shares(a, b memory, within bool) bool {
	return anyOverlap(a.updates, b.updates, within) || anyOverlap(a.bags, b.bags, within) ||
		anyOverlap(a.rows, b.rows, within) || anyOverlap(a.loops, b.loops, within)
}

// played is a trace that was given l, and handles that are told it, from different epochs on.
type played struct {
	*share.Trace
	handles []*share.Handle
}

func play(t *testing.T, l []api.Update) played {
	t.Helper()
	s := share.New()
	p := played{Trace: s}
	for _, epoch := range []uint64{0, 0, 2, 1, 4} {
		p.handles = append(p.handles, hold(t, s, epoch))
	}
	insert(t, s, 4, l...)
	inserts(t, s, l, 4, api.ErrSpineEarly)
	inserts(t, s, l, 3, api.ErrSpineEarly)
	return p
}

// answered is what all calls that tell something answer: the handles are asked twice, before and behind more that comes.
func (p played) answered(t *testing.T) memory {
	t.Helper()
	var m memory
	from := p.Upper()
	for upper := from; upper < from+2; upper++ {
		for epoch := range upper {
			l, _ := p.At(epoch)
			m.addBag(l)
		}
		for _, h := range p.handles {
			l, _, _ := h.Next()
			m.addUpdates(l)
		}
		insert(t, p.Trace, upper+1, of(at(upper), 1, text("more"), null()), of(at(upper), 1))
		p.Work(3)
	}
	return m
}

func TestArgumentsAreAsTheyWere(t *testing.T) {
	l := roomy()
	p := play(t, l)
	p.answered(t)
	p.Work(1000)
	var mine, new memory
	mine.addUpdates(l)
	new.addUpdates(roomy())
	if !same(mine, new) {
		t.Errorf("arguments have changed: %v", l)
	}
}

// The trace and its handles are as they were, whatever becomes of what was given and of what was answered.
func TestNothingIsShared(t *testing.T) {
	l := roomy()
	p, other := play(t, l), play(t, roomy())
	var mine memory
	mine.addUpdates(l)
	first := p.answered(t)
	other.answered(t)
	second := p.answered(t)
	switch {
	case shares(first, second, false):
		t.Error("two answers share memory")
	case shares(first, first, true):
		t.Error("two lists that were answered share memory")
	case shares(first, mine, false):
		t.Error("an answer shares memory with an argument")
	default:
		first.spoil()
		mine.spoil()
	}
	if !same(second, other.answered(t)) || !same(p.answered(t), other.answered(t)) {
		t.Error("the trace has changed")
	}
}

// One list, filled anew for each call.
func TestOneListForAllCalls(t *testing.T) {
	s := share.New()
	h := hold(t, s, 0)
	l := updates(of(at(0), 1, num(0), text("x")))
	var want []api.Update
	for i := range 9 {
		l[0].Row[0], l[0].Time.Epoch = num(int64(i)), uint64(i)
		insert(t, s, uint64(i+1), l...)
		want = append(want, of(at(uint64(i)), 1, num(int64(i)), text("x")))
	}
	reads(t, h, 9, want...)
}

// Texts are part of a row: they do not stay in the memory of what was given, nor of what is kept.
func TestTextsAreNewMemory(t *testing.T) {
	whole := strings.Repeat("abc", 1000)
	s := share.New()
	a, b := hold(t, s, 0), hold(t, s, 0)
	insert(t, s, 1, of(at(0), 1, text(whole[5:10])))
	places := []*byte{unsafe.StringData(whole[5:10])}
	for _, h := range []*share.Handle{a, b} {
		there, _ := s.At(0)
		told, _, _ := h.Next()
		for _, r := range []api.Row{there[0].Row, told[0].Row} {
			if r[0].Text != whole[5:10] {
				t.Fatalf("%q", r[0].Text)
			}
			places = append(places, unsafe.StringData(r[0].Text))
		}
	}
	for i, p := range places {
		if slices.Contains(places[:i], p) {
			t.Error("two texts are in the same memory")
		}
	}
}

func heap() uint64 {
	var m runtime.MemStats
	runtime.GC()
	runtime.ReadMemStats(&m)
	return m.HeapAlloc
}

// What nobody holds any more is not kept when it is merged; nor are handles that were dropped.
func TestWhatIsNotHeldIsNotKept(t *testing.T) {
	const size = 100000
	var first, second []api.Update
	for i := range int64(size) {
		first = append(first, up(7, uint64(i), 1))
		second = append(second, up(7, uint64(size+i), 1))
	}
	before := heap()
	s := share.New()
	h := hold(t, s, 0)
	insert(t, s, size, first...)
	insert(t, s, 2*size, second...)
	for range size {
		k, _ := s.Share(size)
		k.Drop()
	}
	allows(t, s, 2*size, api.OK)
	works(t, s, size, 0)
	if after := heap(); after < before+2*64*size {
		t.Errorf("the heap grew from %d to %d: updates lack", before, after)
	}
	h.Drop()
	works(t, s, size, 0)
	if after := heap(); after > before+size {
		t.Errorf("the heap grew from %d to %d, for one update", before, after)
	}
	insert(t, s, 2*size+1)
	there(t, s, 2*size, counted(2*size, num(7)))
	stands(t, s, 2*size, 2*size+1, 0)
	runtime.KeepAlive(first)
	runtime.KeepAlive(second)
}
