package reduce_test

import (
	"math"
	"slices"
	"strings"
	"testing"

	"penstock/api"
	"penstock/reduce"
)

func at(epoch uint64, loops ...uint32) api.Time { return api.Time{Epoch: epoch, Loops: loops} }

func list(l ...api.Time) []api.Time { return l }

func updates(l ...api.Update) []api.Update { return l }

// of is an update of the row of some data.
func of(t api.Time, diff int64, data ...api.Datum) api.Update {
	return api.Update{Row: data, Time: t, Diff: diff}
}

// in is an update of the row of some numbers, of an epoch.
func in(epoch uint64, diff int64, l ...int64) api.Update { return of(at(epoch), diff, nums(l...)...) }

func sameTime(a, b api.Time) bool { return a.Epoch == b.Epoch && slices.Equal(a.Loops, b.Loops) }

func sameTimes(a, b []api.Time) bool { return slices.EqualFunc(a, b, sameTime) }

func sameUpdates(a, b []api.Update) bool {
	return slices.EqualFunc(a, b, func(x, y api.Update) bool {
		return x.Diff == y.Diff && sameTime(x.Time, y.Time) && slices.Equal(x.Row, y.Row)
	})
}

func made(t *testing.T, spec api.Rel) *reduce.Reduce {
	t.Helper()
	r, e := reduce.New(spec)
	if e != api.OK || r == nil {
		t.Fatalf("New(%v) = %v, %v", spec, r, e)
	}
	return r
}

// pushes says what Push should answer.
func pushes(t *testing.T, r *reduce.Reduce, l []api.Update, want ...api.Time) {
	t.Helper()
	if got := r.Push(l); !sameTimes(got, want) {
		t.Errorf("Push(%v) = %v, want %v", l, got, want)
	}
}

// closes says what Close should answer: no errors.
func closes(t *testing.T, r *reduce.Reduce, frontier []api.Time, want ...api.Update) {
	t.Helper()
	closesWith(t, r, frontier, want, nil)
}

func closesWith(t *testing.T, r *reduce.Reduce, frontier []api.Time, want, wrong []api.Update) {
	t.Helper()
	if got, errs := r.Close(frontier); !sameUpdates(got, want) || !sameUpdates(errs, wrong) {
		t.Errorf("Close(%v) = %v, %v, want %v, %v", frontier, got, errs, want, wrong)
	}
}

// waits says what Waits should answer.
func waits(t *testing.T, r *reduce.Reduce, want ...api.Time) {
	t.Helper()
	if got := r.Waits(); !sameTimes(got, want) {
		t.Errorf("Waits() = %v, want %v", got, want)
	}
}

func TestExamplesOfTheDocument(t *testing.T) {
	r := made(t, by(cols(0), sum(col(1))))
	pushes(t, r, updates(in(2, 1, 1, 5), in(3, 1, 1, 7)), at(2), at(3))
	closes(t, r, list(at(3)), in(2, 1, 1, 5))
	waits(t, r, at(3))
	closes(t, r, nil, in(3, -1, 1, 5), in(3, 1, 1, 12))
	waits(t, r)

	r = made(t, by(cols(0)))
	pushes(t, r, updates(of(at(0, 1), 1, num(1)), of(at(1, 0), 1, num(1))), at(0, 1), at(1, 0), at(1, 1))
	comesTo(t, "example 2", top(nil, 1, 0, down(1)), nil, bag(times(2, num(1), num(5)), times(1, num(1), num(7))), bag(times(1, num(1), num(7))), nil)
	comesTo(t, "example 2", top(nil, 1, 1, down(1)), nil, bag(times(2, num(1), num(5)), times(1, num(1), num(7))), bag(times(1, num(1), num(5))), nil)
	comesTo(t, "example 2", by(nil, sum(col(0))), nil, bag(times(2, num(math.MinInt64))), nil, faults(fault(api.ErrDatumOver, 1)))
}

func TestNewRefuses(t *testing.T) {
	order := slices.Repeat([]api.Sort{up(31)}, api.MaxColumns)
	aggs := slices.Repeat([]api.Agg{greatest(col(0))}, api.MaxColumns)
	full := slices.Repeat(cols(31), api.MaxColumns)
	threshold := func(change func(x *api.Rel)) api.Rel {
		x := api.Rel{Kind: api.RelThreshold}
		change(&x)
		return x
	}
	for name, x := range map[string]struct {
		spec api.Rel
		want api.Errno
	}{
		"reduce of nothing":       {by(nil), api.OK},
		"threshold":               {api.Rel{Kind: api.RelThreshold}, api.OK},
		"top of nothing":          {top(nil, 0, 0), api.OK},
		"no limit":                {top(nil, -1, 0), api.OK},
		"far limits":              {top(nil, math.MaxInt, math.MaxInt), api.OK},
		"all that may be":         {api.Rel{Kind: api.RelReduce, Cols: full, Aggs: aggs, Order: order}, api.OK},
		"all that may be, top":    {api.Rel{Kind: api.RelTop, Cols: full, Aggs: aggs, Order: order}, api.OK},
		"all that may be, none":   {api.Rel{Kind: api.RelThreshold, Cols: full, Aggs: aggs, Order: order}, api.OK},
		"all aggregations":        {by(cols(0, 31), countAll(), count(col(0)), sum(col(0)), least(col(0)), greatest(col(0)), distinct(countAll())), api.OK},
		"bad expressions":         {by(nil, sum(api.Expr{}), count(on(99)), least(col(-1))), api.OK},
		"limits of a reduce":      {api.Rel{Kind: api.RelReduce, Limit: -2, Offset: -1}, api.OK},
		"limits of a threshold":   {threshold(func(x *api.Rel) { x.Limit, x.Offset = -2, -1 }), api.OK},
		"other fields":            {api.Rel{Kind: api.RelTop, Kids: []api.Rel{{}}, IDs: cols(1), Arity: 99, ID: -1, Rows: bag(times(1)), Exprs: []api.Expr{{}}}, api.OK},
		"no kind":                 {api.Rel{}, api.ErrReduceForm},
		"get":                     {api.Rel{Kind: api.RelGet}, api.ErrReduceForm},
		"negate":                  {api.Rel{Kind: api.RelNegate}, api.ErrReduceForm},
		"join":                    {api.Rel{Kind: api.RelJoin}, api.ErrReduceForm},
		"let":                     {api.Rel{Kind: api.RelLet}, api.ErrReduceForm},
		"a kind far out":          {api.Rel{Kind: 255}, api.ErrReduceForm},
		"columns":                 {by(append(cols(0), full...)), api.ErrReduceForm},
		"columns of a top":        {top(append(cols(0), full...), 1, 0), api.ErrReduceForm},
		"columns of a threshold":  {threshold(func(x *api.Rel) { x.Cols = append(cols(0), full...) }), api.ErrReduceForm},
		"aggs":                    {by(nil, append(aggs, countAll())...), api.ErrReduceForm},
		"aggs of a top":           {api.Rel{Kind: api.RelTop, Aggs: append(aggs, countAll())}, api.ErrReduceForm},
		"order":                   {top(nil, 1, 0, append(order, up(0))...), api.ErrReduceForm},
		"order of a reduce":       {api.Rel{Kind: api.RelReduce, Order: append(order, up(0))}, api.ErrReduceForm},
		"a column below 0":        {by(cols(0, -1)), api.ErrReduceForm},
		"a column above 31":       {by(cols(32, 0)), api.ErrReduceForm},
		"one far out":             {top(cols(math.MinInt), 1, 0), api.ErrReduceForm},
		"one of a threshold":      {threshold(func(x *api.Rel) { x.Cols = cols(32) }), api.ErrReduceForm},
		"ordered below 0":         {top(nil, 1, 0, up(0), up(-1)), api.ErrReduceForm},
		"ordered above 31":        {top(nil, 1, 0, down(32), up(1)), api.ErrReduceForm},
		"ordered, a reduce":       {api.Rel{Kind: api.RelReduce, Order: []api.Sort{up(math.MaxInt)}}, api.ErrReduceForm},
		"no aggregation":          {by(nil, countAll(), api.Agg{}), api.ErrReduceForm},
		"none such":               {by(nil, api.Agg{Func: 6}, countAll()), api.ErrReduceForm},
		"none such of a top":      {api.Rel{Kind: api.RelTop, Aggs: []api.Agg{{Func: 255}}}, api.ErrReduceForm},
		"none such, threshold":    {threshold(func(x *api.Rel) { x.Aggs = []api.Agg{{Func: 6}} }), api.ErrReduceForm},
		"a limit below -1":        {top(nil, -2, 0), api.ErrReduceForm},
		"a limit far below":       {top(nil, math.MinInt, 0), api.ErrReduceForm},
		"an offset below 0":       {top(nil, 1, -1), api.ErrReduceForm},
		"an offset far below":     {top(nil, 1, math.MinInt), api.ErrReduceForm},
		"an offset without limit": {top(nil, -1, -1), api.ErrReduceForm},
	} {
		if r, e := reduce.New(x.spec); e != x.want || (r == nil) != (e != api.OK) {
			t.Errorf("%s: New(%v) = %v, %v, want %v", name, x.spec, r, e, x.want)
		}
	}
}

func TestNewIsEmpty(t *testing.T) {
	for _, spec := range []api.Rel{by(nil, countAll()), top(nil, 1, 0), threshold()} {
		r := made(t, spec)
		waits(t, r)
		closes(t, r, nil)
		closes(t, r, list(at(3)))
		pushes(t, r, nil)
		pushes(t, r, updates())
		waits(t, r)
		closes(t, r, nil)
	}
}

// What Push tells is what has not waited; each once, in order, whatever the rows are.
func TestPushTellsNewTimes(t *testing.T) {
	r := made(t, by(cols(0), countAll()))
	pushes(t, r, updates(in(7, 1, 1), in(3, 1, 1), in(7, 1, 2), in(5, -1, 3), in(3, 1, 4)), at(3), at(5), at(7))
	pushes(t, r, updates(in(7, 1, 1), in(3, 1, 5)))
	waits(t, r, at(3), at(5), at(7))
	pushes(t, r, updates(in(4, 1, 1), in(5, 1, 1)), at(4))
	waits(t, r, at(3), at(4), at(5), at(7))
	closesWith(t, r, list(at(5)), updates(in(3, 1, 1, 1), in(4, -1, 1, 1), in(4, 1, 1, 2), in(3, 1, 4, 1), in(3, 1, 5, 1)), nil)
	waits(t, r, at(5), at(7))
	pushes(t, r, updates(in(5, 1, 1), in(8, 1, 9), in(0, 0, 9)), at(0), at(8))
	waits(t, r, at(0), at(5), at(7), at(8))
}

// An update makes wait all times of its group that are beyond it, closed or not, and none of another group.
func TestLaterTimesWaitAgain(t *testing.T) {
	r := made(t, by(cols(0), sum(col(1))))
	pushes(t, r, updates(in(2, 1, 1, 10), in(4, 1, 1, 20), in(6, 1, 1, 30), in(3, 1, 2, 10), in(5, 1, 2, 20)), at(2), at(3), at(4), at(5), at(6))
	closes(t, r, nil,
		in(2, 1, 1, 10), in(4, -1, 1, 10), in(4, 1, 1, 30), in(6, -1, 1, 30), in(6, 1, 1, 60),
		in(3, 1, 2, 10), in(5, -1, 2, 10), in(5, 1, 2, 30))
	waits(t, r)
	pushes(t, r, updates(in(3, 1, 1, 1)), at(3), at(4), at(6))
	closes(t, r, list(at(5)), in(3, -1, 1, 10), in(4, 1, 1, 10), in(3, 1, 1, 11), in(4, -1, 1, 11), in(4, -1, 1, 30), in(4, 1, 1, 31))
	waits(t, r, at(6))
	pushes(t, r, updates(in(5, 1, 2, 2)), at(5))
	pushes(t, r, updates(in(5, 1, 1, 2)))
	waits(t, r, at(5), at(6))
	closes(t, r, nil, in(6, 1, 1, 30), in(5, -1, 1, 31), in(5, 1, 1, 33), in(6, -1, 1, 33), in(6, -1, 1, 60), in(6, 1, 1, 63), in(5, -1, 2, 30), in(5, 1, 2, 32))
	pushes(t, r, updates(in(9, 1, 2, 1)), at(9))
	pushes(t, r, updates(in(8, 1, 1, 1)), at(8))
	closes(t, r, list(at(9)), in(8, -1, 1, 63), in(8, 1, 1, 64))
	closes(t, r, list(at(10)), in(9, -1, 2, 32), in(9, 1, 2, 33))
}

// The times of updates count even where these come to nothing.
func TestTimesOfNothing(t *testing.T) {
	r := made(t, by(cols(0), countAll()))
	pushes(t, r, updates(in(3, 0, 1)), at(3))
	closes(t, r, nil)
	pushes(t, r, updates(in(2, 1, 1)), at(2), at(3))
	closes(t, r, nil, in(2, 1, 1, 1))
	pushes(t, r, updates(in(5, 1, 2), in(5, -1, 2)), at(5))
	closes(t, r, nil)
	pushes(t, r, updates(in(4, 1, 2)), at(4), at(5))
	pushes(t, r, updates(in(4, -1, 2)))
	closes(t, r, nil)
	pushes(t, r, updates(in(0, 0, 2)), at(0), at(4), at(5))
	closes(t, r, nil)

	// Many updates that come to nothing, one by one: the times of all of them are joined.
	for i := range uint32(20) {
		r.Push(updates(of(at(0, 20-i), 1, num(3))))
		r.Push(updates(of(at(0, 20-i), -1, num(3))))
	}
	closes(t, r, nil)
	var want []api.Time
	for i := range uint32(21) {
		want = append(want, at(1, i))
	}
	pushes(t, r, updates(of(at(1, 0), 1, num(3))), want...)
	closes(t, r, nil, of(at(1, 0), 1, num(3), num(1)))
}

// All that comes of joining times of one depth waits, as far as it is beyond an update.
func TestJoinsWait(t *testing.T) {
	r := made(t, by(nil, countAll()))
	pushes(t, r, updates(of(at(0, 2), 1), of(at(1, 1), 1), of(at(2, 0), 1)), at(0, 2), at(1, 1), at(1, 2), at(2, 0), at(2, 1), at(2, 2))
	closes(t, r, nil,
		of(at(0, 2), 1, num(1)), of(at(1, 1), 1, num(1)), of(at(1, 2), -2, num(1)), of(at(2, 0), 1, num(1)), of(at(2, 1), -2, num(1)), of(at(2, 2), 1, num(1)),
		of(at(1, 2), 1, num(2)), of(at(2, 1), 1, num(2)), of(at(2, 2), -2, num(2)), of(at(2, 2), 1, num(3)))
	pushes(t, r, updates(of(at(1, 0), 1)), at(1, 0), at(1, 1), at(1, 2), at(2, 0), at(2, 1), at(2, 2))
	closes(t, r, list(at(0, 1)),
		of(at(1, 0), 1, num(1)), of(at(2, 0), -2, num(1)), of(at(2, 0), 1, num(2)))
	waits(t, r, at(1, 1), at(1, 2), at(2, 1), at(2, 2))
	pushes(t, r, updates(of(at(3), 1), of(at(1), 1), of(at(0, 0, 3), 1), of(at(0, 1, 0), 1)), at(1), at(3), at(0, 0, 3), at(0, 1, 0), at(0, 1, 3))
	pushes(t, r, updates(of(at(0, 3), 1)), at(0, 3), at(1, 3), at(2, 3))
	pushes(t, r, updates(of(at(5, 5), 1), of(at(0, 0, 4), 0)), at(5, 5), at(0, 0, 4), at(0, 1, 4))

	loops := made(t, by(nil))
	pushes(t, loops, updates(of(at(1, 0, 0, 0), 1), of(at(0, 1, 0, 0), 1)), at(0, 1, 0, 0), at(1, 0, 0, 0), at(1, 1, 0, 0))
	pushes(t, loops, updates(of(at(0, 0, 1, 0), 1)), at(0, 0, 1, 0), at(0, 1, 1, 0), at(1, 0, 1, 0), at(1, 1, 1, 0))
	pushes(t, loops, updates(of(at(0, 0, 0, 1), 1)), at(0, 0, 0, 1), at(0, 0, 1, 1), at(0, 1, 0, 1), at(0, 1, 1, 1), at(1, 0, 0, 1), at(1, 0, 1, 1), at(1, 1, 0, 1), at(1, 1, 1, 1))
}

// Times of different groups are not joined.
func TestJoinsOfOneGroupAlone(t *testing.T) {
	r := made(t, by(cols(0)))
	pushes(t, r, updates(of(at(0, 1), 1, num(1)), of(at(1, 0), 1, num(2))), at(0, 1), at(1, 0))
	pushes(t, r, updates(of(at(1, 0), 1, num(1))), at(1, 1))
	pushes(t, r, updates(of(at(0, 1), 1, num(2)), of(at(0, 3), 1, num(1))), at(0, 3), at(1, 3))
	closes(t, r, list(at(1, 1)),
		of(at(0, 1), 1, num(1)), of(at(1, 0), 1, num(1)), of(at(0, 1), 1, num(2)), of(at(1, 0), 1, num(2)))
	waits(t, r, at(1, 1), at(1, 3))
	closes(t, r, list(at(1, 2)), of(at(1, 1), -1, num(1)), of(at(1, 1), -1, num(2)))
	waits(t, r, at(1, 3))
	closes(t, r, nil)
}

// Times wait as long as they are beyond a time of the frontier that has their depth.
func TestFrontiers(t *testing.T) {
	all := updates(in(1, 1), in(2, 1), of(at(1, 1), 1), of(at(1, 2), 1), of(at(2, 1), 1), of(at(0, 0, 0, 0, 0), 1))
	waiting := list(at(1), at(2), at(1, 1), at(1, 2), at(2, 1), at(2, 2), at(0, 0, 0, 0, 0))
	for name, x := range map[string]struct{ frontier, left []api.Time }{
		"nothing":           {nil, nil},
		"behind":            {list(at(3), at(3, 0), at(0, 3), at(0, 0, 0)), nil},
		"another depth":     {list(at(0, 0, 0)), nil},
		"all of no loop":    {list(at(0)), waiting[:2]},
		"an epoch":          {list(at(2)), waiting[1:2]},
		"of loops":          {list(at(0, 0)), waiting[2:6]},
		"one counter":       {list(at(0, 2)), list(at(1, 2), at(2, 2))},
		"one epoch":         {list(at(2, 0)), list(at(2, 1), at(2, 2))},
		"both":              {list(at(2, 0), at(0, 2)), list(at(1, 2), at(2, 1), at(2, 2))},
		"no antichain":      {list(at(2, 0), at(2), at(9), at(2, 5), at(0, 0, 0, 0, 0)), list(at(2), at(2, 1), at(2, 2), at(0, 0, 0, 0, 0))},
		"everything":        {list(at(0), at(0, 0), at(0, 0, 0, 0, 0)), waiting},
		"everything, twice": {list(at(0), at(0), at(0, 0), at(0, 0), at(1, 1), at(0, 0, 0, 0, 0)), waiting},
	} {
		r := made(t, by(nil, countAll()))
		pushes(t, r, all, waiting...)
		rows, errs := r.Close(x.frontier)
		waits(t, r, x.left...)
		if len(errs) > 0 || (len(x.left) == len(waiting)) != (len(rows) == 0) {
			t.Errorf("%s: %v, %v", name, rows, errs)
		}
		for _, u := range rows {
			if slices.ContainsFunc(x.left, func(t api.Time) bool { return sameTime(t, u.Time) }) {
				t.Errorf("%s: %v waits, but %v is told", name, x.left, u)
			}
		}
	}
}

// Any times are accepted.
func TestFarTimes(t *testing.T) {
	const most, top = math.MaxUint64, math.MaxUint32
	r := made(t, by(nil, countAll()))
	pushes(t, r, updates(in(most, 1), in(0, 1), of(at(most, 0, 0, 0, 7), 1), of(at(0, top, 0, 0, 0), 1), of(at(3, 1), 1)),
		at(0), at(most), at(3, 1), at(0, top, 0, 0, 0), at(most, 0, 0, 0, 7), at(most, top, 0, 0, 7))
	closes(t, r, list(at(most), at(most, 0, 0, 0, 8)), of(at(0), 1, num(1)), of(at(3, 1), 1, num(1)),
		of(at(0, top, 0, 0, 0), 1, num(1)), of(at(most, 0, 0, 0, 7), 1, num(1)), of(at(most, top, 0, 0, 7), -2, num(1)), of(at(most, top, 0, 0, 7), 1, num(2)))
	waits(t, r, at(most))
}

// Errors are told as rows of their numbers, those of several groups together, and taken back.
func TestErrors(t *testing.T) {
	quotient := on(api.ExprDiv, col(1), col(2))
	r := made(t, by(cols(0), sum(quotient)))
	pushes(t, r, updates(in(1, 2, 1, 6, 0), in(1, 3, 2, 6, 0), in(1, 1, 2, 6, 3), of(at(1), 1, num(3), text(""), num(1))), at(1))
	closesWith(t, r, nil, updates(in(1, 1, 2, 2)), updates(in(1, 5, int64(api.ErrDatumZero)), in(1, 1, int64(api.ErrExprType))))
	pushes(t, r, updates(in(2, -2, 1, 6, 0), in(2, 2, 2, 7, 0)), at(2))
	closes(t, r, nil)
	pushes(t, r, updates(in(3, 1, 2, 8, 1), in(3, -3, 2, 6, 0), in(4, -1, 2, 8, 1), in(4, -1, 2, 6, 3)), at(3), at(4))
	closesWith(t, r, nil, updates(in(3, -1, 2, 2), in(3, 1, 2, 10), in(4, -1, 2, 10)), updates(in(3, -3, int64(api.ErrDatumZero))))
	pushes(t, r, updates(in(5, -2, 1, 5, 1), in(5, -2, 2, 5, 1), in(6, 4, 1, 5, 1), of(at(6), -1, num(3), text(""), num(1))), at(5), at(6))
	closesWith(t, r, nil, updates(in(6, 1, 1, 10)), updates(in(6, -1, int64(api.ErrExprType)), in(5, 2, int64(api.ErrMirMinus)), in(6, -1, int64(api.ErrMirMinus))))
}

func TestErrorsOfTheWholeGroup(t *testing.T) {
	r := made(t, by(nil, sum(col(0))))
	pushes(t, r, updates(in(1, 1, math.MaxInt64), in(2, 1, 1), in(3, -1, math.MaxInt64), of(at(4), 1, text("a"))), at(1), at(2), at(3), at(4))
	closesWith(t, r, nil, updates(in(3, 1, 1), in(4, -1, 1), in(1, 1, math.MaxInt64), in(2, -1, math.MaxInt64)),
		updates(in(2, 1, int64(api.ErrDatumOver)), in(3, -1, int64(api.ErrDatumOver)), in(4, 1, int64(api.ErrExprType))))
}

func TestTopAsItChanges(t *testing.T) {
	r := made(t, top(cols(0), 2, 1, down(1)))
	pushes(t, r, updates(in(1, 1, 1, 10), in(1, 2, 1, 20), in(2, 1, 1, 30), in(3, -1, 1, 20), in(1, 1, 2, 5)), at(1), at(2), at(3))
	closes(t, r, nil, in(1, 1, 1, 10), in(2, -1, 1, 10), in(3, 1, 1, 10), in(1, 1, 1, 20), in(2, 1, 1, 20), in(3, -1, 1, 20))
	pushes(t, r, updates(in(4, -5, 2, 5), in(5, 7, 2, 5), in(4, 1, 2, 6)), at(4), at(5))
	closesWith(t, r, nil, updates(in(5, 2, 2, 5)), updates(in(4, 1, int64(api.ErrMirMinus)), in(5, -1, int64(api.ErrMirMinus))))
	pushes(t, r, updates(in(6, 5, 2, 5)), at(6))
	closes(t, r, nil)
}

func TestThresholdAsItChanges(t *testing.T) {
	r := made(t, threshold())
	pushes(t, r, updates(in(1, 2, 1), in(2, -3, 1), in(3, 5, 1), in(1, -1, 2), in(4, 1, 2), of(at(5), 1)), at(1), at(2), at(3), at(4), at(5))
	closes(t, r, nil, of(at(5), 1), in(1, 2, 1), in(2, -2, 1), in(3, 4, 1))
	pushes(t, r, updates(in(0, 1, 2)), at(0), at(1), at(4))
	closes(t, r, nil, in(0, 1, 2), in(1, -1, 2), in(4, 1, 2))
}

// Keys are apart where datum.Cmp tells them apart, whatever they look like.
func TestGroupsByKeys(t *testing.T) {
	keys := []api.Row{nil, row(null()), row(null(), null()), row(text("null")), row(text("")), row(num(1)), row(text("1")), row(truth(true)), row(truth(false)),
		row(num(-1)), row(text("a', 'b")), row(text("a"), text("b")), row(text("\n")), row(text(`\n`)), row(text("\x00")), row(num(1), null()), row(text("é"))}
	var l []api.Update
	for i, k := range keys {
		l = append(l, api.Update{Row: k, Time: at(1), Diff: int64(i + 1)}, api.Update{Row: k, Time: at(2), Diff: -int64(i)})
	}
	r := made(t, threshold())
	pushes(t, r, l, at(1), at(2))
	got, _ := r.Close(list(at(2)))
	if len(got) != len(keys) {
		t.Errorf("%v", got)
	}
	for i, k := range keys {
		want := api.Update{Row: k, Time: at(1), Diff: int64(i + 1)}
		if !slices.ContainsFunc(got, func(u api.Update) bool { return sameUpdates(updates(u), updates(want)) }) {
			t.Errorf("%v is not told of %v", want, got)
		}
	}
	counted := made(t, by(cols(0, 1), countAll()))
	counted.Push(updates(of(at(1), 1), of(at(1), 2, null()), of(at(1), 4, null(), null()), of(at(1), 8, null(), null(), num(1)), of(at(1), 16, num(1)), of(at(1), 32, text("1"))))
	closes(t, counted, nil, of(at(1), 1, null(), null(), num(15)), of(at(1), 1, num(1), null(), num(16)), of(at(1), 1, text("1"), null(), num(32)))
}

// Diffs wrap around, and so do what comes of them.
func TestGreatCounts(t *testing.T) {
	const most, low = math.MaxInt64, math.MinInt64
	r := made(t, threshold())
	pushes(t, r, updates(in(1, most, 1), in(2, 1, 1), in(3, -1, 1), in(4, low, 1)), at(1), at(2), at(3), at(4))
	closes(t, r, nil, in(1, most, 1), in(2, -most, 1), in(3, most, 1), in(4, -most, 1))
	counted := made(t, by(nil, countAll()))
	pushes(t, counted, updates(in(1, most, 1), in(1, 1, 2), in(2, low, 1), in(2, 1, 1)), at(1), at(2))
	closes(t, counted, nil, in(1, 1, low), in(2, -1, low), in(2, 1, 1))
}

// Objects are independent of one another.
func TestReducesAreIndependent(t *testing.T) {
	a, b := made(t, by(cols(0), countAll())), made(t, by(cols(0), countAll()))
	pushes(t, a, updates(in(1, 1, 1)), at(1))
	waits(t, b)
	pushes(t, b, updates(in(1, 1, 1), in(2, 1, 1)), at(1), at(2))
	closes(t, a, nil, in(1, 1, 1, 1))
	waits(t, b, at(1), at(2))
	closes(t, b, nil, in(1, 1, 1, 1), in(2, -1, 1, 1), in(2, 1, 1, 2))
}

// Rows that may not be harm nobody; long ones are there or not like others.
func TestRowsThatMayNotBe(t *testing.T) {
	long := slices.Repeat(nums(1), 40)
	bad := []api.Datum{{}, {Kind: 9}, {Kind: api.KindNull, Int: 1}, text("\xff"), text(strings.Repeat("a", 1001))}
	for _, spec := range []api.Rel{by(cols(0), greatest(col(0))), top(cols(0), 1, 0, up(0)), threshold()} {
		r := made(t, spec)
		for _, d := range bad {
			r.Push(updates(of(at(1), 1, d), of(at(1), 1, num(1), d)))
		}
		r.Close(nil)
	}
	r := made(t, threshold())
	pushes(t, r, updates(of(at(1), 2, long...), of(at(2), -1, long...), of(at(2), 1, append(long, num(2))...)), at(1), at(2))
	closes(t, r, nil, of(at(1), 2, long...), of(at(2), -1, long...), of(at(2), 1, append(long, num(2))...))
}
