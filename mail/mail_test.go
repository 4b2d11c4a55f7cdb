package mail_test

import (
	"math"
	"slices"
	"strings"
	"testing"

	"penstock/api"
	"penstock/mail"
)

func at(epoch uint64, loops ...uint32) api.Time { return api.Time{Epoch: epoch, Loops: loops} }

func number(n int) api.Datum { return api.Datum{Kind: api.KindInt, Int: int64(n)} }

func text(s string) api.Datum { return api.Datum{Kind: api.KindText, Text: s} }

func update(t api.Time, diff int64, r ...api.Datum) api.Update {
	return api.Update{Row: r, Time: t, Diff: diff}
}

// message is the one with this number: no two are the same, and none is zero.
func message(n int) api.Message {
	m := api.Message{To: api.Port{Node: n, Port: n % 2}, Time: at(uint64(n), uint32(n), 7)}
	for i := range 1 + n%3 {
		m.Rows = append(m.Rows, update(at(uint64(n+i), uint32(i)), int64(n-i), number(n), text(strings.Repeat("x", i))))
	}
	for i := range n % 2 {
		m.Errs = append(m.Errs, update(at(uint64(n)), int64(i+1), number(11)))
	}
	return m
}

func sameTime(a, b api.Time) bool { return a.Epoch == b.Epoch && slices.Equal(a.Loops, b.Loops) }

func sameUpdate(a, b api.Update) bool {
	return slices.Equal(a.Row, b.Row) && sameTime(a.Time, b.Time) && a.Diff == b.Diff
}

func same(a, b api.Message) bool {
	return a.To == b.To && sameTime(a.Time, b.Time) &&
		slices.EqualFunc(a.Rows, b.Rows, sameUpdate) && slices.EqualFunc(a.Errs, b.Errs, sameUpdate)
}

func box(t *testing.T, workers, room int) *mail.Box {
	t.Helper()
	b, e := mail.New(workers, room)
	if e != api.OK {
		t.Fatalf("New(%d, %d) = %v", workers, room, e)
	}
	return b
}

// sends says what Send should answer.
func sends(t *testing.T, b *mail.Box, from, to int, m api.Message, want api.Errno) {
	t.Helper()
	if e := b.Send(from, to, m); e != want {
		t.Errorf("Send(%d, %d, %v) = %v, want %v", from, to, m, e, want)
	}
}

func send(t *testing.T, b *mail.Box, from, to int, m api.Message) {
	t.Helper()
	sends(t, b, from, to, m, api.OK)
}

// takes says which message Take should answer.
func takes(t *testing.T, b *mail.Box, from, to int, want api.Message) {
	t.Helper()
	if m, e := b.Take(from, to); e != api.OK || !same(m, want) {
		t.Errorf("Take(%d, %d) = %v, %v, want %v", from, to, m, e, want)
	}
}

// fails says which error Take should answer, with a message that is zero.
func fails(t *testing.T, b *mail.Box, from, to int, want api.Errno) {
	t.Helper()
	m, e := b.Take(from, to)
	if e != want || !same(m, api.Message{}) || m.Rows != nil || m.Errs != nil || m.Time.Loops != nil {
		t.Errorf("Take(%d, %d) = %v, %v, want %v", from, to, m, e, want)
	}
}

func length(t *testing.T, b *mail.Box, from, to, want int) {
	t.Helper()
	if n := b.Len(from, to); n != want {
		t.Errorf("Len(%d, %d) = %d, want %d", from, to, n, want)
	}
}

func ready(t *testing.T, b *mail.Box, want ...[2]int) {
	t.Helper()
	if l := b.Ready(); !slices.Equal(l, want) {
		t.Errorf("Ready() = %v, want %v", l, want)
	}
}

// The example.
func TestTwoWorkers(t *testing.T) {
	first, second := message(1), message(2)
	b := box(t, 2, 1)
	send(t, b, 0, 1, first)
	sends(t, b, 0, 1, second, api.ErrFull)
	send(t, b, 0, 0, second)
	ready(t, b, [2]int{0, 0}, [2]int{0, 1})
	takes(t, b, 0, 1, first)
	fails(t, b, 0, 1, api.ErrMailNone)
	ready(t, b, [2]int{0, 0})
	takes(t, b, 0, 0, second)
	ready(t, b)
}

func TestNew(t *testing.T) {
	for _, workers := range []int{math.MinInt, -1, 0, 1, 2, 8, 9, 64, math.MaxInt} {
		for _, room := range []int{math.MinInt, -1, 0, 1, 2, 64, 65, math.MaxInt} {
			want := api.OK
			if workers < 1 || workers > 8 || room < 1 || room > 64 {
				want = api.ErrMailForm
			}
			b, e := mail.New(workers, room)
			if e != want || (b != nil) != (e == api.OK) {
				t.Errorf("New(%d, %d) = %v, %v, want %v", workers, room, b, e, want)
			}
		}
	}
}

func TestNewChannelsAreEmpty(t *testing.T) {
	for workers := 1; workers <= api.MaxWorkers; workers++ {
		b := box(t, workers, api.MaxMail)
		ready(t, b)
		for from := range workers {
			for to := range workers {
				length(t, b, from, to, 0)
				fails(t, b, from, to, api.ErrMailNone)
			}
		}
		ready(t, b)
	}
}

// Each channel has exactly the room that was asked for, and what is refused changes nothing.
func TestRoom(t *testing.T) {
	for room := 1; room <= api.MaxMail; room++ {
		b := box(t, 2, room)
		for i := range room {
			length(t, b, 1, 0, i)
			send(t, b, 1, 0, message(i))
		}
		for range 3 {
			sends(t, b, 1, 0, message(999), api.ErrFull)
			length(t, b, 1, 0, room)
		}
		send(t, b, 0, 1, message(77)) // the way back has room of its own
		takes(t, b, 1, 0, message(0))
		length(t, b, 1, 0, room-1)
		send(t, b, 1, 0, message(room))
		sends(t, b, 1, 0, message(999), api.ErrFull)
		for i := range room {
			takes(t, b, 1, 0, message(i+1))
			length(t, b, 1, 0, room-1-i)
		}
		fails(t, b, 1, 0, api.ErrMailNone)
		takes(t, b, 0, 1, message(77))
	}
}

// Messages come in the order in which they were sent, at whatever place of the ring they begin, and however many there are.
func TestOrderAroundTheRing(t *testing.T) {
	for _, room := range []int{1, 2, 3, 5, 64} {
		b := box(t, 1, room)
		sent, taken := 0, 0
		for turn := range 6 * room {
			for range turn%room + 1 {
				if sent-taken < room {
					send(t, b, 0, 0, message(sent))
					sent++
				}
			}
			for range turn%3 + 1 {
				if taken < sent {
					takes(t, b, 0, 0, message(taken))
					taken++
				}
			}
			length(t, b, 0, 0, sent-taken)
		}
		for ; taken < sent; taken++ {
			takes(t, b, 0, 0, message(taken))
		}
		fails(t, b, 0, 0, api.ErrMailNone)
		if sent < 6*room {
			t.Fatalf("with room for %d only %d were sent", room, sent)
		}
	}
}

// What goes from one worker to another one goes to no other one, not back, and not from another one.
func TestChannelsAreIndependent(t *testing.T) {
	const workers = api.MaxWorkers
	b := box(t, workers, 2)
	for i := range 2 {
		for to := range workers {
			for from := range workers {
				send(t, b, from, to, message(100*i+10*from+to))
			}
		}
	}
	for to := workers - 1; to >= 0; to-- {
		for from := range workers {
			length(t, b, from, to, 2)
			takes(t, b, from, to, message(10*from+to))
			length(t, b, from, to, 1)
		}
	}
	for from := range workers {
		for to := range workers {
			takes(t, b, from, to, message(100+10*from+to))
			fails(t, b, from, to, api.ErrMailNone)
		}
	}
}

func TestReady(t *testing.T) {
	b := box(t, 4, 3)
	var want [][2]int
	for _, pair := range [][2]int{{3, 0}, {1, 2}, {0, 3}, {2, 2}, {1, 0}, {0, 0}, {3, 3}, {2, 1}} {
		send(t, b, pair[0], pair[1], message(1))
		want = append(want, pair)
		slices.SortFunc(want, func(a, b [2]int) int { return slices.Compare(a[:], b[:]) })
		ready(t, b, want...)
		send(t, b, pair[0], pair[1], message(2))
		ready(t, b, want...)
	}
	for len(want) > 0 {
		i := len(want) / 2
		takes(t, b, want[i][0], want[i][1], message(1))
		ready(t, b, want...)
		takes(t, b, want[i][0], want[i][1], message(2))
		want = slices.Delete(want, i, i+1)
		ready(t, b, want...)
	}
}

func TestReadyOfAll(t *testing.T) {
	for workers := 1; workers <= api.MaxWorkers; workers++ {
		b := box(t, workers, 1)
		var want [][2]int
		for from := range workers {
			for to := range workers {
				send(t, b, from, to, api.Message{})
				want = append(want, [2]int{from, to})
			}
		}
		ready(t, b, want...)
	}
}

// No such worker: that is told before what else is wrong, and nothing changes.
func TestNoSuchWorker(t *testing.T) {
	for workers := 1; workers <= api.MaxWorkers; workers++ {
		b := box(t, workers, 1)
		last := workers - 1
		send(t, b, last, 0, message(1))
		for _, w := range []int{math.MinInt, -workers, -1, workers, workers + 1, 8, 9, math.MaxInt} {
			for _, other := range []int{-1, 0, last, workers, math.MinInt, math.MaxInt} {
				for _, pair := range [][2]int{{w, other}, {other, w}} {
					sends(t, b, pair[0], pair[1], message(2), api.ErrMailForm)
					fails(t, b, pair[0], pair[1], api.ErrMailForm)
					length(t, b, pair[0], pair[1], 0)
				}
			}
		}
		ready(t, b, [2]int{last, 0})
		length(t, b, last, 0, 1)
		takes(t, b, last, 0, message(1))
		ready(t, b)
	}
}

// strange is messages that nothing but mail would take.
func strange() []api.Message {
	far := at(math.MaxUint64, 1, 2, 3, 4, math.MaxUint32)
	wrong := api.Datum{Kind: 99, Bool: true, Int: math.MinInt64, Text: "\xff\x00" + strings.Repeat("é", 2000)}
	long := make(api.Row, 10*api.MaxColumns)
	many := make([]api.Update, 5000)
	for i := range many {
		many[i] = update(at(uint64(i), make([]uint32, i%9)...), int64(i), long[:i%40]...)
	}
	return []api.Message{
		{},
		{To: api.Port{Node: -1, Out: true, Port: math.MinInt}},
		{To: api.Port{Node: math.MaxInt, Port: math.MaxInt}, Time: far},
		{Rows: []api.Update{{}}},
		{Errs: []api.Update{{}, {}}},
		{Rows: []api.Update{update(far, math.MinInt64, wrong, wrong), update(far, 0, long...), update(at(0), 1), update(at(0), 1)}},
		{Errs: []api.Update{update(far, math.MaxInt64, wrong), update(at(3), -1, text("no number"), number(5), api.Datum{})}},
		{Time: at(1, make([]uint32, 3000)...), Rows: many, Errs: many[1:]},
	}
}

func TestMessagesAreArbitrary(t *testing.T) {
	l := strange()
	b := box(t, 1, len(l))
	for _, m := range l {
		send(t, b, 0, 0, m)
	}
	for _, m := range strange() {
		takes(t, b, 0, 0, m)
	}
	fails(t, b, 0, 0, api.ErrMailNone)
}

// The same message again is another message; one that says nothing is one, too.
func TestEachMessageOnce(t *testing.T) {
	b := box(t, 2, 4)
	for range 2 {
		send(t, b, 0, 1, message(5))
		send(t, b, 0, 1, api.Message{})
	}
	for range 2 {
		takes(t, b, 0, 1, message(5))
		takes(t, b, 0, 1, api.Message{})
	}
	fails(t, b, 0, 1, api.ErrMailNone)
	length(t, b, 0, 1, 0)
}

func TestBoxesAreIndependent(t *testing.T) {
	a, b := box(t, 2, 1), box(t, 2, 1)
	send(t, a, 0, 1, message(1))
	length(t, b, 0, 1, 0)
	ready(t, b)
	fails(t, b, 0, 1, api.ErrMailNone)
	send(t, b, 0, 1, message(2))
	takes(t, a, 0, 1, message(1))
	ready(t, a)
	ready(t, b, [2]int{0, 1})
	takes(t, b, 0, 1, message(2))
}
