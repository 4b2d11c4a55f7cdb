package share_test

import (
	"math"
	"reflect"
	"slices"
	"strings"
	"testing"

	"penstock/api"
	"penstock/share"
)

func num(n int64) api.Datum { return api.Datum{Kind: api.KindInt, Int: n} }

func text(s string) api.Datum { return api.Datum{Kind: api.KindText, Text: s} }

func null() api.Datum { return api.Datum{Kind: api.KindNull} }

func at(epoch uint64, loops ...uint32) api.Time { return api.Time{Epoch: epoch, Loops: loops} }

func row(data ...api.Datum) api.Row { return data }

// up is an update of the row of one number.
func up(n int64, epoch uint64, diff int64) api.Update {
	return api.Update{Row: row(num(n)), Time: at(epoch), Diff: diff}
}

func of(t api.Time, diff int64, data ...api.Datum) api.Update {
	return api.Update{Row: data, Time: t, Diff: diff}
}

func updates(l ...api.Update) []api.Update { return l }

func counted(n int64, data ...api.Datum) api.Counted { return api.Counted{Row: data, Count: n} }

func sameUpdates(a, b []api.Update) bool {
	return slices.EqualFunc(a, b, func(x, y api.Update) bool {
		return x.Diff == y.Diff && x.Time.Epoch == y.Time.Epoch && slices.Equal(x.Time.Loops, y.Time.Loops) && slices.Equal(x.Row, y.Row)
	})
}

func sameBag(a, b []api.Counted) bool {
	return slices.EqualFunc(a, b, func(x, y api.Counted) bool { return x.Count == y.Count && slices.Equal(x.Row, y.Row) })
}

// inserts says what Insert should answer.
func inserts(t *testing.T, s *share.Trace, l []api.Update, upper uint64, want api.Errno) {
	t.Helper()
	if e := s.Insert(l, upper); e != want {
		t.Fatalf("Insert(%v, %d) = %v, want %v", l, upper, e, want)
	}
}

func insert(t *testing.T, s *share.Trace, upper uint64, l ...api.Update) {
	t.Helper()
	inserts(t, s, l, upper, api.OK)
}

// works says how much fuel should be left.
func works(t *testing.T, s *share.Trace, fuel, want int) {
	t.Helper()
	if left := s.Work(fuel); left != want {
		t.Fatalf("Work(%d) = %d, want %d", fuel, left, want)
	}
}

// allows is for a trace and for a handle.
func allows(t *testing.T, s interface{ Allow(uint64) api.Errno }, since uint64, want api.Errno) {
	t.Helper()
	if e := s.Allow(since); e != want {
		t.Fatalf("Allow(%d) = %v, want %v", since, e, want)
	}
}

func there(t *testing.T, s *share.Trace, epoch uint64, want ...api.Counted) {
	t.Helper()
	if l, e := s.At(epoch); e != api.OK || !sameBag(l, want) {
		t.Fatalf("At(%d) = %v, %v, want %v", epoch, l, e, want)
	}
}

// refuses says which error At should answer, with nothing beside it.
func refuses(t *testing.T, s *share.Trace, epoch uint64, want api.Errno) {
	t.Helper()
	if l, e := s.At(epoch); e != want || l != nil {
		t.Fatalf("At(%d) = %v, %v, want %v", epoch, l, e, want)
	}
}

// stands says where SINCE and Upper should be, and how many handles there should be.
func stands(t *testing.T, s *share.Trace, since, upper uint64, holds int) {
	t.Helper()
	if s.Since() != since || s.Upper() != upper || s.Holds() != holds {
		t.Fatalf("Since, Upper and Holds are %d, %d, %d, want %d, %d, %d", s.Since(), s.Upper(), s.Holds(), since, upper, holds)
	}
}

func hold(t *testing.T, s *share.Trace, epoch uint64) *share.Handle {
	t.Helper()
	h, e := s.Share(epoch)
	if e != api.OK || h == nil {
		t.Fatalf("Share(%d) = %v, %v", epoch, h, e)
	}
	holds(t, h, epoch)
	return h
}

func refusesToShare(t *testing.T, s *share.Trace, epoch uint64) {
	t.Helper()
	if h, e := s.Share(epoch); e != api.ErrShareSince || h != nil {
		t.Fatalf("Share(%d) = %v, %v", epoch, h, e)
	}
}

func holds(t *testing.T, h *share.Handle, want uint64) {
	t.Helper()
	if h.Since() != want {
		t.Fatalf("Since() = %d, want %d", h.Since(), want)
	}
}

// reads says what Next should answer.
func reads(t *testing.T, h *share.Handle, epoch uint64, want ...api.Update) {
	t.Helper()
	if l, n, e := h.Next(); e != api.OK || n != epoch || !sameUpdates(l, want) {
		t.Fatalf("Next() = %v, %d, %v, want %v, %d", l, n, e, want, epoch)
	}
}

// ended says that h was dropped.
func ended(t *testing.T, h *share.Handle, held uint64) {
	t.Helper()
	if l, n, e := h.Next(); e != api.ErrEnded || n != 0 || l != nil {
		t.Fatalf("Next() = %v, %d, %v", l, n, e)
	}
	for _, since := range []uint64{0, held - 1, held, held + 1, math.MaxUint64} {
		allows(t, h, since, api.ErrEnded)
	}
	holds(t, h, held)
}

// two is the trace of the first example.
func two(t *testing.T) *share.Trace {
	t.Helper()
	s := share.New()
	insert(t, s, 2, up(1, 0, 1), up(2, 1, 1))
	return s
}

func TestExamples(t *testing.T) {
	s := two(t)
	h := hold(t, s, 1)
	allows(t, s, 2, api.OK)
	stands(t, s, 1, 2, 1)
	reads(t, h, 2, up(1, 1, 1), up(2, 1, 1))
	insert(t, s, 4, up(1, 3, -1))
	reads(t, h, 4, up(1, 3, -1))
	allows(t, h, 4, api.ErrShareForm)
	allows(t, h, 3, api.OK)
	stands(t, s, 2, 4, 1)
	refuses(t, s, 1, api.ErrShareSince)

	refusesToShare(t, s, 0)
	h.Drop()
	ended(t, h, 3)
	reads(t, hold(t, s, 9), 9)
}

func TestNew(t *testing.T) {
	s := share.New()
	stands(t, s, 0, 0, 0)
	refuses(t, s, 0, api.ErrSpineEarly)
	refuses(t, s, math.MaxUint64, api.ErrSpineEarly)
	works(t, s, 7, 7)
	allows(t, s, 0, api.OK)
	allows(t, s, 1, api.ErrShareForm)
	reads(t, hold(t, s, 0), 0)
	stands(t, s, 0, 0, 1)
}

func TestInsert(t *testing.T) {
	const greatest = math.MaxUint64
	for name, x := range map[string]struct {
		l     []api.Update
		upper uint64
		want  api.Errno
	}{
		"nothing":              {nil, 2, api.OK},
		"an empty list":        {updates(), 3, api.OK},
		"some":                 {updates(up(1, 3, 1), of(at(2), -1), of(at(2), 5, null(), text("é"))), 4, api.OK},
		"the greatest":         {updates(up(1, greatest-1, 1)), greatest, api.OK},
		"back":                 {nil, 1, api.ErrSpineForm},
		"back to 0":            {nil, 0, api.ErrSpineForm},
		"early":                {updates(up(1, 2, 1), up(1, 1, 1)), 3, api.ErrSpineEarly},
		"early, back":          {updates(up(1, 0, 1)), 1, api.ErrSpineEarly},
		"late":                 {updates(up(1, 3, 1)), 3, api.ErrSpineEarly},
		"late, the greatest":   {updates(up(1, greatest, 1)), greatest, api.ErrSpineEarly},
		"counters":             {updates(of(at(2, 0), 1, num(1))), 3, api.ErrSpineForm},
		"counters, and early":  {updates(up(1, 1, 1), of(at(2, 0), 1)), 3, api.ErrSpineForm},
		"no row":               {updates(of(at(2), 1, api.Datum{})), 3, api.ErrSpineForm},
		"too long a text":      {updates(of(at(2), 1, text(strings.Repeat("x", api.MaxText+1)))), 3, api.ErrSpineForm},
		"as long a text as is": {updates(of(at(2), 1, text(strings.Repeat("x", api.MaxText)))), 3, api.OK},
	} {
		t.Run(name, func(t *testing.T) {
			s := two(t)
			h := hold(t, s, 0)
			inserts(t, s, x.l, x.upper, x.want)
			if x.want != api.OK {
				stands(t, s, 0, 2, 1)
				reads(t, h, 2, up(1, 0, 1), up(2, 1, 1))
				return
			}
			stands(t, s, 0, x.upper, 1)
			l, upper, e := h.Next()
			if len(l) != 2+len(x.l) || upper != x.upper || e != api.OK {
				t.Errorf("Next() = %v, %d, %v", l, upper, e)
			}
		})
	}
}

// Work is that of the spine: all that is compacted is combined, and what a handle holds is not.
func TestWork(t *testing.T) {
	s := share.New()
	insert(t, s, 2, up(1, 0, 1), up(1, 1, 1), up(3, 0, 1))
	insert(t, s, 3, up(1, 2, 1), up(3, 2, -1))
	insert(t, s, 4, up(2, 3, 1))
	works(t, s, 0, 0)
	works(t, s, -1, 0)
	works(t, s, 2, 0)
	insert(t, s, 5)
	h := hold(t, s, 2)
	allows(t, s, 5, api.OK)
	works(t, s, 1, 0) // now the last two are merged
	works(t, s, 7, 1) // so are the six updates, seen from 2 on: they come to two
	works(t, s, 7, 7)
	there(t, s, 2, counted(3, num(1)))
	there(t, s, 3, counted(3, num(1)), counted(1, num(2)))
	reads(t, h, 5, up(1, 2, 3), up(2, 3, 1))
	insert(t, s, 6, up(5, 5, 1))
	works(t, s, 9, 6)
	h.Drop()
	insert(t, s, 7, up(5, 6, -1), up(6, 6, 1))
	works(t, s, 5, 0)
	works(t, s, 7, 7)
	there(t, s, 5, counted(3, num(1)), counted(1, num(2)), counted(1, num(5)))
	there(t, s, 6, counted(3, num(1)), counted(1, num(2)), counted(1, num(6)))
}

func TestTraceAllow(t *testing.T) {
	s := share.New()
	insert(t, s, 9, up(1, 0, 1), up(2, 4, 1), up(3, 8, 1))
	for _, x := range []struct {
		since uint64
		want  api.Errno
		after uint64
	}{
		{10, api.ErrShareForm, 0}, {math.MaxUint64, api.ErrShareForm, 0}, {0, api.OK, 0}, {4, api.OK, 4}, {3, api.ErrShareForm, 4}, {0, api.ErrShareForm, 4},
		{4, api.OK, 4}, {8, api.OK, 8}, {10, api.ErrShareForm, 8}, {9, api.OK, 9}, {9, api.OK, 9}, {8, api.ErrShareForm, 9}, {10, api.ErrShareForm, 9},
	} {
		allows(t, s, x.since, x.want)
		stands(t, s, x.after, 9, 0)
	}
	insert(t, s, 12)
	allows(t, s, 12, api.OK)
	stands(t, s, 12, 12, 0)
}

// What a trace allows is held against what it allows, and not against SINCE.
func TestTraceAllowWithHandles(t *testing.T) {
	s := share.New()
	insert(t, s, 9, up(1, 0, 1))
	h := hold(t, s, 2)
	allows(t, s, 6, api.OK)
	stands(t, s, 2, 9, 1)
	for _, since := range []uint64{0, 2, 3, 5, 10} {
		allows(t, s, since, api.ErrShareForm)
		stands(t, s, 2, 9, 1)
	}
	h.Drop()
	stands(t, s, 6, 9, 0)
}

func TestSinceIsTheMinimum(t *testing.T) {
	s := share.New()
	insert(t, s, 20, up(1, 0, 1), up(1, 15, 1))
	a, b, c := hold(t, s, 3), hold(t, s, 5), hold(t, s, 3)
	stands(t, s, 0, 20, 3)
	allows(t, s, 2, api.OK)
	stands(t, s, 2, 20, 3)
	d := hold(t, s, 2)
	allows(t, s, 7, api.OK)
	stands(t, s, 2, 20, 4)
	for _, h := range []*share.Handle{a, b, c, d} {
		h.Next()
	}
	allows(t, d, 19, api.OK)
	stands(t, s, 3, 20, 4)
	refusesToShare(t, s, 2)
	a.Drop()
	stands(t, s, 3, 20, 3)
	allows(t, c, 4, api.OK)
	stands(t, s, 4, 20, 3)
	refuses(t, s, 3, api.ErrShareSince)
	there(t, s, 4, counted(1, num(1)))
	c.Drop()
	stands(t, s, 5, 20, 2)
	allows(t, b, 11, api.OK)
	stands(t, s, 7, 20, 2)
	refuses(t, s, 6, api.ErrShareSince)
	there(t, s, 7, counted(1, num(1)))
	allows(t, s, 12, api.OK)
	stands(t, s, 11, 20, 2)
	refusesToShare(t, s, 10)
	e := hold(t, s, 11)
	b.Drop()
	stands(t, s, 11, 20, 2)
	e.Drop()
	stands(t, s, 12, 20, 1)
	allows(t, s, 20, api.OK)
	stands(t, s, 19, 20, 1)
	d.Drop()
	stands(t, s, 20, 20, 0)
	refuses(t, s, 19, api.ErrShareSince)
	refuses(t, s, 20, api.ErrSpineEarly)
}

func TestAt(t *testing.T) {
	s := share.New()
	insert(t, s, 3, up(2, 1, -2), up(1, 0, 1), up(1, 2, -1), of(at(1), 1, null(), text("a")), of(at(2), 1))
	there(t, s, 0, counted(1, num(1)))
	there(t, s, 1, counted(1, null(), text("a")), counted(1, num(1)), counted(-2, num(2)))
	there(t, s, 2, counted(1), counted(1, null(), text("a")), counted(-2, num(2)))
	refuses(t, s, 3, api.ErrSpineEarly)
	refuses(t, s, math.MaxUint64, api.ErrSpineEarly)
	allows(t, s, 2, api.OK)
	refuses(t, s, 0, api.ErrShareSince)
	refuses(t, s, 1, api.ErrShareSince)
	there(t, s, 2, counted(1), counted(1, null(), text("a")), counted(-2, num(2)))
	allows(t, s, 3, api.OK)
	refuses(t, s, 2, api.ErrShareSince)
	refuses(t, s, 3, api.ErrSpineEarly)
	insert(t, s, 4)
	there(t, s, 3, counted(1), counted(1, null(), text("a")), counted(-2, num(2)))
}

func TestShare(t *testing.T) {
	s := two(t)
	allows(t, s, 1, api.OK)
	stands(t, s, 1, 2, 0)
	refusesToShare(t, s, 0)
	stands(t, s, 1, 2, 0)
	var l []*share.Handle
	for i, epoch := range []uint64{1, 1, 2, 3, math.MaxUint64} {
		l = append(l, hold(t, s, epoch))
		stands(t, s, 1, 2, i+1)
	}
	reads(t, l[0], 2, up(1, 1, 1), up(2, 1, 1))
	reads(t, l[1], 2, up(1, 1, 1), up(2, 1, 1))
	reads(t, l[2], 2)
	reads(t, l[3], 3)
	reads(t, l[4], math.MaxUint64)
	for i, h := range l {
		h.Drop()
		stands(t, s, 1, 2, 4-i)
	}
}

// The methods of what a trace and its handles have in common are not among theirs.
func TestNoOtherMethods(t *testing.T) {
	for x, want := range map[reflect.Type]string{
		reflect.TypeFor[*share.Trace]():  "Allow At Holds Insert Share Since Upper Work",
		reflect.TypeFor[*share.Handle](): "Allow Drop Next Since",
	} {
		var l []string
		for i := range x.NumMethod() {
			l = append(l, x.Method(i).Name)
		}
		if got := strings.Join(l, " "); got != want {
			t.Errorf("%v has %s", x, got)
		}
	}
}

func TestTracesAreIndependent(t *testing.T) {
	a, b := two(t), two(t)
	h, k := hold(t, a, 0), hold(t, b, 0)
	insert(t, a, 3, up(3, 2, 1))
	allows(t, b, 2, api.OK)
	stands(t, a, 0, 3, 1)
	stands(t, b, 0, 2, 1)
	h.Drop()
	stands(t, a, 0, 3, 0)
	stands(t, b, 0, 2, 1)
	reads(t, k, 2, up(1, 0, 1), up(2, 1, 1))
	ended(t, h, 0)
}
