package mail_test

import (
	"runtime"
	"slices"
	"strings"
	"testing"
	"unsafe"

	"penstock/api"
)

// roomy is a message all of whose lists have more behind their ends, which is no part of them; the empty ones, too.
func roomy() api.Message {
	updates := func(n int) []api.Update {
		u := api.Update{Row: api.Row{text("abc"), number(1), text("behind")}[:2], Time: at(2, 3, 4, 5), Diff: 1}
		u.Time.Loops = u.Time.Loops[:2]
		empty := api.Update{Row: api.Row{text("behind")}[:0], Time: at(2, 9), Diff: -1}
		empty.Time.Loops = empty.Time.Loops[:0]
		return []api.Update{u, empty, update(at(7), 7, text("behind"))}[:n]
	}
	m := api.Message{To: api.Port{Node: 3}, Time: at(6, 7, 8), Rows: updates(2), Errs: updates(0)}
	m.Time.Loops = m.Time.Loops[:1]
	return m
}

// loops is all lists of counters of a message, with what is behind their ends.
func loops(m api.Message) [][]uint32 {
	l := [][]uint32{m.Time.Loops[:cap(m.Time.Loops)]}
	for _, u := range slices.Concat(m.Rows[:cap(m.Rows)], m.Errs[:cap(m.Errs)]) {
		l = append(l, u.Time.Loops[:cap(u.Time.Loops)])
	}
	return l
}

func rows(m api.Message) []api.Row {
	var l []api.Row
	for _, u := range slices.Concat(m.Rows[:cap(m.Rows)], m.Errs[:cap(m.Errs)]) {
		l = append(l, u.Row[:cap(u.Row)])
	}
	return l
}

func updates(m api.Message) [][]api.Update {
	return [][]api.Update{m.Rows[:cap(m.Rows)], m.Errs[:cap(m.Errs)]}
}

// spoil overwrites all that a message has, and what is behind its ends.
func spoil(m api.Message) {
	for _, l := range loops(m) {
		for i := range l {
			l[i] = 999
		}
	}
	for _, r := range rows(m) {
		for i := range r {
			r[i] = text("spoilt")
		}
	}
	for _, l := range updates(m) {
		for i := range l {
			l[i] = update(at(999, 9), 999, text("spoilt"))
		}
	}
}

// overlap says whether two lists have memory in common, or begin at the same place.
func overlap[T any](a, b []T) bool {
	if unsafe.SliceData(a) == unsafe.SliceData(b) && a != nil {
		return true
	}
	for i := range a {
		for k := range b {
			if &a[i] == &b[k] {
				return true
			}
		}
	}
	return false
}

func anyOverlap[T any, S ~[]T](a, b []S, distinct bool) bool {
	for i := range a {
		for k := range b {
			if (distinct || i != k) && overlap(a[i], b[k]) {
				return true
			}
		}
	}
	return false
}

// shares says whether two messages have memory in common; or two parts of one message, if distinct is false.
func shares(a, b api.Message, distinct bool) bool {
	return anyOverlap(loops(a), loops(b), distinct) || anyOverlap(rows(a), rows(b), distinct) || anyOverlap(updates(a), updates(b), distinct)
}

func TestArgumentsAreAsTheyWere(t *testing.T) {
	b := box(t, 2, 2)
	m := roomy()
	send(t, b, 0, 1, m)
	send(t, b, 0, 1, m)
	sends(t, b, 0, 1, m, api.ErrFull)
	sends(t, b, 0, 2, m, api.ErrMailForm)
	for range 2 {
		got, _ := b.Take(0, 1)
		spoil(got)
	}
	want := roomy()
	if !same(m, want) || !slices.EqualFunc(loops(m), loops(want), slices.Equal) || !slices.EqualFunc(rows(m), rows(want), slices.Equal) {
		t.Errorf("%v has changed to %v", want, m)
	}
	for i, l := range updates(m) {
		if !slices.EqualFunc(l, updates(want)[i], sameUpdate) {
			t.Errorf("%v has changed to %v", updates(want)[i], l)
		}
	}
}

// What is on its way is as it was sent, whatever becomes of the message; and so it is if the same one is sent again.
func TestArgumentsAreNotRetained(t *testing.T) {
	b := box(t, 2, 3)
	m := roomy()
	send(t, b, 1, 0, m)
	send(t, b, 1, 0, m)
	send(t, b, 0, 1, m)
	got, _ := b.Take(1, 0)
	if shares(got, m, true) {
		t.Error("what is taken shares memory with what was sent")
	}
	spoil(m)
	spoil(got)
	takes(t, b, 0, 1, roomy())
	takes(t, b, 1, 0, roomy())
}

// One message, filled anew for each sending.
func TestOneMessageForAll(t *testing.T) {
	b := box(t, 1, 10)
	m := message(2)
	for i := range 10 {
		m.Time.Loops[0], m.Rows[0].Row[0], m.Rows[1].Time.Loops[0] = uint32(i), number(i), uint32(2*i)
		send(t, b, 0, 0, m)
	}
	want := message(2)
	for i := range 10 {
		want.Time.Loops[0], want.Rows[0].Row[0], want.Rows[1].Time.Loops[0] = uint32(i), number(i), uint32(2*i)
		takes(t, b, 0, 0, want)
	}
}

func TestMessagesAreNewMemory(t *testing.T) {
	b := box(t, 1, 4)
	for range 3 {
		send(t, b, 0, 0, roomy())
	}
	first, _ := b.Take(0, 0)
	send(t, b, 0, 0, first)
	for range 3 {
		got, _ := b.Take(0, 0)
		if shares(first, got, true) || shares(got, got, false) {
			t.Error("two lists that were taken share memory")
		}
		spoil(first)
		if !same(got, roomy()) {
			t.Errorf("what was taken has changed: %v", got)
		}
		first = got
	}
	many := api.Message{}
	for i := range 20 {
		many.Rows = append(many.Rows, update(at(1, uint32(i)), 1, number(i)))
		many.Errs = append(many.Errs, update(at(1, uint32(i)), 1, number(i)))
	}
	send(t, b, 0, 0, many)
	if got, _ := b.Take(0, 0); shares(got, got, false) {
		t.Error("two lists of one message share memory")
	}
}

// Texts are part of a message: they do not stay in the memory of what was sent.
func TestTextsAreNewMemory(t *testing.T) {
	whole := strings.Repeat("abc", 1000)
	b := box(t, 1, 1)
	send(t, b, 0, 0, api.Message{Rows: []api.Update{update(at(1), 1, text(whole[5:10]))}, Errs: []api.Update{update(at(1), 1, text(whole[:3]))}})
	m, _ := b.Take(0, 0)
	for got, want := range map[string]string{m.Rows[0].Row[0].Text: whole[5:10], m.Errs[0].Row[0].Text: whole[:3]} {
		if got != want || unsafe.StringData(got) == unsafe.StringData(want) {
			t.Errorf("%q is in the memory of what was sent", got)
		}
	}
}

func TestReadyIsNewMemory(t *testing.T) {
	b := box(t, 2, 1)
	for _, pair := range [][2]int{{0, 1}, {1, 0}, {1, 1}} {
		send(t, b, pair[0], pair[1], message(1))
	}
	first, second := b.Ready(), b.Ready()
	for i := range first[:cap(first)] {
		first[:cap(first)][i] = [2]int{9, 9}
	}
	want := [][2]int{{0, 1}, {1, 0}, {1, 1}}
	if !slices.Equal(second, want) {
		t.Errorf("%v: two lists share memory", second)
	}
	ready(t, b, want...)
	takes(t, b, 1, 0, message(1))
}

func heap() uint64 {
	var m runtime.MemStats
	runtime.GC()
	runtime.ReadMemStats(&m)
	return m.HeapAlloc
}

// What was taken is not kept; nor is what was refused.
func TestWhatWasTakenIsNotKept(t *testing.T) {
	const size = 100000
	long := api.Message{Rows: []api.Update{update(at(1, make([]uint32, size)...), 1)}}
	b := box(t, 1, api.MaxMail)
	before := heap()
	for range api.MaxMail {
		send(t, b, 0, 0, long)
	}
	for range 10 {
		sends(t, b, 0, 0, long, api.ErrFull)
	}
	if after := heap(); after < before+4*size*api.MaxMail || after > before+4*size*(api.MaxMail+2) {
		t.Errorf("with all places taken, the heap grew from %d to %d", before, after)
	}
	for i := range api.MaxMail {
		if _, e := b.Take(0, 0); e != api.OK {
			t.Fatal(e)
		}
		left := uint64(api.MaxMail - 1 - i)
		if after := heap(); after > before+4*size*(left+2) {
			t.Fatalf("with %d left, the heap grew from %d to %d", left, before, after)
		}
	}
	runtime.KeepAlive(b)
	runtime.KeepAlive(long)
}
