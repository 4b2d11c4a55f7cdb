package delta_test

import (
	"slices"
	"strings"
	"testing"
	"unsafe"

	"penstock/api"
	"penstock/delta"
)

// roomyTime is t, whose counters have others behind their end.
func roomyTime(t api.Time) api.Time {
	t.Loops = append(slices.Clone(t.Loops), 0, 80)[:len(t.Loops)]
	return t
}

func roomyRow(r api.Row) api.Row { return append(slices.Clone(r), num(70), null())[:len(r)] }

// given is what all the calls are given, where each list has more behind its end, which is no part of it; the empty ones, too.
type given struct {
	l     []api.Update
	since []api.Time
	bags  [][]api.Counted
}

func roomy() given {
	g := given{
		l: updates(
			update(1, at(1, 2), text("abc"), num(1)), update(2, at(2, 1), text("abc"), num(1)), update(4, at(1)), update(8, at(1, 2), text("abc"), num(1)),
			update(1, at(2), num(3)), update(-1, at(2), num(3)), update(1, at(2, 2), text("behind"))),
		since: list(at(1, 1), at(1), at(0, 2), at(1, 2), at(9)),
		bags:  bags(bag(counted(1, text("abc")), counted(0)), bag(counted(2, num(2))), nil, bag(counted(1)), bag(counted(3, num(3)))),
	}
	for i, u := range g.l {
		g.l[i].Row, g.l[i].Time = roomyRow(u.Row), roomyTime(u.Time)
	}
	for i, t := range g.since {
		g.since[i] = roomyTime(t)
	}
	for _, b := range g.bags {
		for i, c := range b {
			b[i].Row = roomyRow(c.Row)
		}
	}
	for i, b := range g.bags {
		g.bags[i] = append(slices.Clone(b), counted(9, text("behind")))[:len(b)]
	}
	g.l, g.since, g.bags = g.l[:len(g.l)-1], g.since[:len(g.since)-1], g.bags[:len(g.bags)-1]
	return g
}

// memory is all lists of some updates, times and bags, with what is behind their ends.
type memory struct {
	updates [][]api.Update
	times   [][]api.Time
	bags    [][]api.Counted
	rows    []api.Row
	loops   [][]uint32
}

func (m *memory) addRow(r api.Row) { m.rows = append(m.rows, r[:cap(r)]) }

func (m *memory) addTime(t api.Time) { m.loops = append(m.loops, t.Loops[:cap(t.Loops)]) }

func (m *memory) addUpdates(l []api.Update) {
	l = l[:cap(l)]
	m.updates = append(m.updates, l)
	for _, u := range l {
		m.addRow(u.Row)
		m.addTime(u.Time)
	}
}

func (m *memory) addTimes(l []api.Time) {
	l = l[:cap(l)]
	m.times = append(m.times, l)
	for _, t := range l {
		m.addTime(t)
	}
}

func (m *memory) addBag(l []api.Counted) {
	l = l[:cap(l)]
	m.bags = append(m.bags, l)
	for _, c := range l {
		m.addRow(c.Row)
	}
}

func memoryOf(g given) memory {
	var m memory
	m.addUpdates(g.l)
	m.addTimes(g.since)
	for _, b := range g.bags[:cap(g.bags)] {
		m.addBag(b)
	}
	return m
}

// spoil overwrites all of it.
func (m *memory) spoil() {
	for _, l := range m.loops {
		for i := range l {
			l[i] = 999
		}
	}
	for _, r := range m.rows {
		for i := range r {
			r[i] = text("spoilt")
		}
	}
	for _, l := range m.updates {
		for i := range l {
			l[i] = update(9, at(999, 9), text("spoilt"))
		}
	}
	for _, l := range m.times {
		for i := range l {
			l[i] = at(999, 9)
		}
	}
	for _, l := range m.bags {
		for i := range l {
			l[i] = counted(9, text("spoilt"))
		}
	}
}

func sameMemory(a, b memory) bool {
	return slices.EqualFunc(a.updates, b.updates, sameUpdates) && slices.EqualFunc(a.times, b.times, sameTimes) && slices.EqualFunc(a.bags, b.bags, sameBag) &&
		slices.EqualFunc(a.rows, b.rows, slices.Equal) && slices.EqualFunc(a.loops, b.loops, slices.Equal)
}

func overlap[T any](a, b []T) bool {
	if unsafe.SliceData(a) == unsafe.SliceData(b) && a != nil {
		return true
	}
	for i := range a {
		for k := range b {
			if &a[i] == &b[k] {
				return true
			}
		}
	}
	return false
}

func anyOverlap[T any, S ~[]T](a, b []S, within bool) bool {
	for i := range a {
		for k := range b {
			if !(within && i == k) && len(a[i])+len(b[k]) > 0 && overlap(a[i], b[k]) {
				return true
			}
		}
	}
	return false
}

// shares says whether something of a is in the memory of b; of two different lists of it, if b is a itself.
func shares(a, b memory, within bool) bool {
	return anyOverlap(a.updates, b.updates, within) || anyOverlap(a.times, b.times, within) || anyOverlap(a.bags, b.bags, within) ||
		anyOverlap(a.rows, b.rows, within) || anyOverlap(a.loops, b.loops, within)
}

// answers is each call, with the memory of its answer.
func answers() map[string]func(g given) memory {
	return map[string]func(g given) memory{
		"Sum":                func(g given) (m memory) { m.addUpdates(delta.Sum(g.l)); return m },
		"At":                 func(g given) (m memory) { m.addBag(delta.At(g.l, roomyTime(at(2, 2)))); return m },
		"Advance":            func(g given) (m memory) { m.addUpdates(delta.Advance(g.l, g.since)); return m },
		"Advance by nothing": func(g given) (m memory) { m.addUpdates(delta.Advance(g.l, g.since[:0])); return m },
		"Times":              func(g given) (m memory) { m.addTimes(delta.Times(g.l)); return m },
		"Of": func(g given) (m memory) {
			m.addUpdates(delta.Of(g.since, g.bags))
			return m
		},
		"Of, refused": func(g given) (m memory) { m.addUpdates(delta.Of(g.since[:2], g.bags)); return m },
	}
}

func TestAnswersAreNewMemory(t *testing.T) {
	for name, call := range answers() {
		g := roomy()
		first, second := call(g), call(g)
		if shares(first, second, false) {
			t.Errorf("%s: two answers share memory", name)
		}
		if shares(first, first, true) {
			t.Errorf("%s: two lists of an answer share memory", name)
		}
		if shares(second, memoryOf(g), false) {
			t.Errorf("%s: an answer shares memory with an argument", name)
		}
		if !sameMemory(memoryOf(g), memoryOf(roomy())) {
			t.Errorf("%s: an argument has changed: %v", name, g)
		}
		first.spoil()
		given := memoryOf(g)
		given.spoil()
		if !sameMemory(second, call(roomy())) {
			t.Errorf("%s: an answer has changed: %v", name, second)
		}
	}
}

func TestAnswersOfTheGiven(t *testing.T) {
	g := roomy()
	if got := delta.Sum(g.l); len(got) != 3 {
		t.Errorf("Sum is %v", got)
	}
	if got := delta.Of(g.since, g.bags); len(got) < 3 {
		t.Errorf("Of is %v", got)
	}
}

// Texts are part of a row: they do not stay in the memory of what was given.
func TestTextsAreNewMemory(t *testing.T) {
	whole := strings.Repeat("abc", 1000)
	l := updates(update(1, at(1), text(whole[5:10])))
	for name, got := range map[string]api.Row{
		"Sum":     delta.Sum(l)[0].Row,
		"At":      delta.At(l, at(1))[0].Row,
		"Advance": delta.Advance(l, nil)[0].Row,
		"Of":      delta.Of(list(at(1)), bags(bag(counted(1, l[0].Row...))))[0].Row,
	} {
		if got[0].Text != whole[5:10] || unsafe.StringData(got[0].Text) == unsafe.StringData(whole[5:10]) {
			t.Errorf("%s: %q is in the memory of what was given", name, got[0].Text)
		}
	}
}
