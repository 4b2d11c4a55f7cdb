package reduce_test

import (
	"runtime"
	"slices"
	"strconv"
	"strings"
	"testing"
	"unsafe"

	"penstock/api"
	"penstock/reduce"
)

// given is what the calls are given, where each list has more behind its end, which is no part of it; the empty ones, too.
type given struct {
	spec          api.Rel
	first, second []api.Update
	frontier      []api.Time
	counted       []api.Counted
	key           api.Row
}

func roomyList[S ~[]T, T any](l S, more ...T) S { return append(slices.Clone(l), more...)[:len(l)] }

func roomyUpdates(l ...api.Update) []api.Update {
	for i, u := range l {
		l[i].Row, l[i].Time.Loops = roomyList(u.Row, num(70), null()), roomyList(u.Time.Loops, 0, 80)
	}
	return roomyList(l, of(at(2), 1, text("abc"), num(99)))
}

// roomy is a spec of that kind, and what is pushed.
func roomy(kind uint8) given {
	twice := on(api.ExprConcat, col(0), lit(text("x")))
	twice.Kids = roomyList(twice.Kids, fail(8))
	g := given{
		spec: api.Rel{Kind: kind, Limit: 2, Offset: 1, Cols: roomyList(cols(0), 5),
			Aggs:  roomyList([]api.Agg{countAll(), greatest(twice), sum(col(1))}, count(fail(9))),
			Order: roomyList([]api.Sort{down(1), up(0)}, down(9)), Kids: []api.Rel{{}}},
		first: roomyUpdates(of(at(1, 2), 2, text("abc"), num(1)), of(at(2, 1), 3, text("abc"), num(2)), of(at(1, 2), 1, text("b"), num(5)),
			of(at(1), 2, text("abc"), num(1)), of(at(1), 2, text("b")), of(at(2), 1), of(at(3), 1, text("b"), num(0), null()), of(at(3), -5, text("abc"), num(1))),
		second:   roomyUpdates(of(at(0, 2), 1, text("abc"), num(1)), of(at(2), 1, text("abc"), num(3)), of(at(5), 2, text("b"), num(9))),
		frontier: list(at(2, 2), at(3)),
		counted:  roomyList(bag(times(3, text("abc"), num(1)), times(1, text("abc"), num(2)), times(1, text("abc"), num(1)), times(2, num(0))), times(1, text("abc"), num(7))),
		key:      roomyList(row(text("abc")), num(3)),
	}
	g.first[0].Row = g.first[3].Row // two updates may have one row
	for i, c := range g.counted {
		g.counted[i].Row = roomyList(c.Row, num(70))
	}
	for i, t := range g.frontier {
		g.frontier[i].Loops = roomyList(t.Loops, 0, 80)
	}
	g.frontier = roomyList(g.frontier, at(9))
	return g
}

// memory is all lists of what is given or answered, with what is behind their ends.
type memory struct {
	updates [][]api.Update
	counted [][]api.Counted
	faults  [][]api.Fault
	times   [][]api.Time
	rows    []api.Row
	loops   [][]uint32
	cols    [][]int
	aggs    [][]api.Agg
	orders  [][]api.Sort
	kids    [][]api.Expr
}

func (m *memory) addUpdates(l []api.Update) {
	l = l[:cap(l)]
	m.updates = append(m.updates, l)
	for _, u := range l {
		m.rows = append(m.rows, u.Row[:cap(u.Row)])
		m.loops = append(m.loops, u.Time.Loops[:cap(u.Time.Loops)])
	}
}

func (m *memory) addCounted(l []api.Counted) {
	l = l[:cap(l)]
	m.counted = append(m.counted, l)
	for _, c := range l {
		m.rows = append(m.rows, c.Row[:cap(c.Row)])
	}
}

func (m *memory) addTimes(l []api.Time) {
	l = l[:cap(l)]
	m.times = append(m.times, l)
	for _, t := range l {
		m.loops = append(m.loops, t.Loops[:cap(t.Loops)])
	}
}

func memoryOf(g given) (m memory) {
	m.addUpdates(g.first)
	m.addUpdates(g.second)
	m.addTimes(g.frontier)
	m.addCounted(g.counted)
	m.rows = append(m.rows, g.key[:cap(g.key)])
	m.cols = append(m.cols, g.spec.Cols[:cap(g.spec.Cols)])
	m.orders = append(m.orders, g.spec.Order[:cap(g.spec.Order)])
	m.aggs = append(m.aggs, g.spec.Aggs[:cap(g.spec.Aggs)])
	for _, a := range g.spec.Aggs {
		m.kids = append(m.kids, a.Expr.Kids[:cap(a.Expr.Kids)])
	}
	return m
}

// spoil overwrites all of it.
func (m *memory) spoil() {
	overwrite(m.loops, 999)
	overwrite(m.rows, text("spoilt"))
	overwrite(m.updates, of(at(999, 9), 9, text("spoilt")))
	overwrite(m.counted, times(9, text("spoilt")))
	overwrite(m.faults, fault(99, 9))
	overwrite(m.times, at(999, 9))
	overwrite(m.cols, 31)
	overwrite(m.orders, up(30))
	overwrite(m.kids, fail(88))
	overwrite(m.aggs, count(fail(77)))
}

func overwrite[T any, S ~[]T](lists []S, x T) {
	for _, l := range lists {
		for i := range l {
			l[i] = x
		}
	}
}

func sameAgg(a, b api.Agg) bool {
	return a.Func == b.Func && a.Distinct == b.Distinct && sameExpr(a.Expr, b.Expr)
}

func sameExpr(a, b api.Expr) bool {
	return a.Op == b.Op && a.Col == b.Col && a.Lit == b.Lit && slices.EqualFunc(a.Kids, b.Kids, sameExpr)
}

func same(a, b memory) bool {
	aggs := func(x, y []api.Agg) bool { return slices.EqualFunc(x, y, sameAgg) }
	kids := func(x, y []api.Expr) bool { return slices.EqualFunc(x, y, sameExpr) }
	return slices.EqualFunc(a.updates, b.updates, sameUpdates) && slices.EqualFunc(a.counted, b.counted, sameBag) &&
		slices.EqualFunc(a.times, b.times, sameTimes) && slices.EqualFunc(a.rows, b.rows, slices.Equal) &&
		slices.EqualFunc(a.loops, b.loops, slices.Equal) && slices.EqualFunc(a.cols, b.cols, slices.Equal) &&
		slices.EqualFunc(a.orders, b.orders, slices.Equal) && slices.EqualFunc(a.aggs, b.aggs, aggs) && slices.EqualFunc(a.kids, b.kids, kids)
}

func overlap[T any](a, b []T) bool {
	for i := range a {
		for k := range b {
			if &a[i] == &b[k] {
				return true
			}
		}
	}
	return false
}

func anyOverlap[T any, S ~[]T](a, b []S, within bool) bool {
	for i := range a {
		for k := range b {
			if !(within && i == k) && overlap(a[i], b[k]) {
				return true
			}
		}
	}
	return false
}

// shares says whether something of a is in the memory of b; of two different lists of it, if within.
func shares(a, b memory, within bool) bool {
	return anyOverlap(a.updates, b.updates, within) || anyOverlap(a.rows, b.rows, within) || anyOverlap(a.loops, b.loops, within) ||
		anyOverlap(a.times, b.times, within) || anyOverlap(a.counted, b.counted, within) || anyOverlap(a.faults, b.faults, within)
}

// played is a Reduce that was given g, and all that it has told.
func played(t *testing.T, g given) (r *reduce.Reduce, told memory) {
	t.Helper()
	r = made(t, g.spec)
	told.addTimes(r.Push(g.first))
	told.addTimes(r.Waits())
	for _, frontier := range [][]api.Time{g.frontier, nil} {
		rows, errs := r.Close(frontier)
		told.addUpdates(rows)
		told.addUpdates(errs)
	}
	told.addTimes(r.Push(g.second))
	told.addTimes(r.Waits())
	there, wrong := reduce.Group(g.spec, g.key, g.counted)
	told.addCounted(there)
	told.faults = append(told.faults, wrong[:cap(wrong)])
	for _, c := range g.counted {
		told.rows = append(told.rows, reduce.Key(g.spec, c.Row))
	}
	return r, told
}

func kinds() []uint8 { return []uint8{api.RelReduce, api.RelTop, api.RelThreshold} }

func TestArgumentsAreAsTheyWere(t *testing.T) {
	for _, kind := range kinds() {
		g := roomy(kind)
		r, _ := played(t, g)
		r.Close(g.frontier)
		if !same(memoryOf(g), memoryOf(roomy(kind))) {
			t.Errorf("arguments have changed: %v", g)
		}
	}
}

// A Reduce is as it was, whatever becomes of what was given and of what was answered.
func TestNothingIsShared(t *testing.T) {
	for _, kind := range kinds() {
		g := roomy(kind)
		r, first := played(t, g)
		other, _ := played(t, roomy(kind))
		mine := memoryOf(g)
		var second memory
		for _, frontier := range [][]api.Time{list(at(0)), list(at(3))} {
			rows, errs := r.Close(frontier)
			second.addUpdates(rows)
			second.addUpdates(errs)
			second.addTimes(r.Push(g.first))
			second.addTimes(r.Waits())
			other.Close(frontier)
			other.Push(g.first)
		}
		if len(first.rows) < 12 || len(first.loops) < 16 || len(second.rows) < 4 {
			t.Fatalf("only %d and %d rows are told", len(first.rows), len(second.rows))
		}
		switch {
		case shares(first, second, false):
			t.Error("two answers share memory")
		case shares(first, first, true) || shares(second, second, true):
			t.Error("two lists that were answered share memory")
		case shares(first, mine, false) || shares(second, mine, false):
			t.Error("an answer shares memory with an argument")
		}
		mine.spoil()
		first.spoil()
		second.spoil()
		waits(t, r, other.Waits()...)
		pushes(t, r, roomy(kind).second, other.Push(roomy(kind).second)...)
		want, wrong := other.Close(roomy(kind).frontier)
		closesWith(t, r, roomy(kind).frontier, want, wrong)
		want, wrong = other.Close(nil)
		closesWith(t, r, nil, want, wrong)
	}
}

// One list, filled anew for each call.
func TestOneListForAllCalls(t *testing.T) {
	spec := by(cols(0), greatest(on(api.ExprConcat, col(1), lit(text("!")))))
	r := made(t, spec)
	spec.Cols[0], spec.Aggs[0], spec.Aggs[0].Expr.Kids[1] = 1, countAll(), fail(5)
	l, frontier := updates(of(at(0, 0), 1, num(0), text("x"))), list(at(0, 0))
	var want []api.Update
	for i := range uint32(9) {
		l[0].Row[0], l[0].Time.Loops[0], frontier[0].Loops[0] = num(int64(i)), i, i
		pushes(t, r, l, at(0, i))
		closes(t, r, frontier, want...)
		want = updates(of(at(0, i), 1, num(int64(i)), text("x!")))
	}
	closes(t, r, nil, want...)
}

// Texts are part of a row: they do not stay in the memory of what was given, nor of what is kept.
func TestTextsAreNewMemory(t *testing.T) {
	whole := strings.Repeat("abc", 1000)
	part := whole[5:10]
	var places []*byte
	add := func(r api.Row) {
		for _, d := range r {
			if d.Kind == api.KindText {
				places = append(places, unsafe.StringData(d.Text))
			}
		}
	}
	r := row(text(part), text(part)) // in one place
	add(r[:1])
	for _, spec := range []api.Rel{by(cols(0, 0), least(col(0)), greatest(col(1)), greatest(lit(text(part)))), top(cols(0), 1, 0), threshold()} {
		add(reduce.Key(spec, r))
		kept := made(t, spec)
		kept.Push(updates(of(at(1), 1, r...), of(at(2), 1, r...), of(at(3), -1, r...)))
		told, _ := kept.Close(nil)
		for _, u := range told {
			add(u.Row)
		}
		for range 2 {
			there, _ := reduce.Group(spec, r, bag(times(2, r...)))
			add(there[0].Row)
		}
	}
	if len(places) < 30 {
		t.Errorf("only %d texts", len(places))
	}
	for i, p := range places {
		if slices.Contains(places[:i], p) {
			t.Errorf("text %d is in the memory of another one", i)
		}
	}
}

func heap() uint64 {
	var m runtime.MemStats
	runtime.GC()
	runtime.ReadMemStats(&m)
	return m.HeapAlloc
}

// keeps says how many bytes a Reduce may keep of what act does with it.
func keeps(t *testing.T, name string, most uint64, act func(r *reduce.Reduce)) {
	t.Helper()
	r := made(t, by(cols(0), countAll()))
	before := heap()
	act(r)
	if after := heap(); after > before+most {
		t.Errorf("%s: the heap grew from %d to %d", name, before, after)
	}
	runtime.KeepAlive(r)
}

// What was given is not kept, even where nothing of it is: empty lists, rows without columns, and times without counters.
func TestNothingIsRetained(t *testing.T) {
	const size = 1 << 20
	var r *reduce.Reduce
	keeps(t, "a spec", size, func(*reduce.Reduce) {
		kids := make([]api.Expr, 2, size)
		kids[0], kids[1] = col(0), lit(text(strings.Repeat("a", 8*size)[:5]))
		bad := on(api.ExprAdd, make([]api.Expr, size)...)
		r = made(t, api.Rel{Kind: api.RelTop, Cols: make([]int, 0, size), Order: make([]api.Sort, 1, size), IDs: make([]int, size), Rows: make([]api.Counted, size),
			Kids: make([]api.Rel, size), Exprs: make([]api.Expr, size), Equal: make([]api.Pair, size), Aggs: append(make([]api.Agg, 0, size), sum(on(api.ExprConcat, kids...)), count(bad))})
	})
	runtime.KeepAlive(r)
	keeps(t, "updates", size, func(r *reduce.Reduce) {
		l := updates(api.Update{Row: make(api.Row, 0, size), Time: api.Time{Loops: make([]uint32, 0, 8*size)}, Diff: 1})
		r.Push(l)
		r.Close(list(api.Time{Loops: make([]uint32, 0, 8*size)}))
		r.Close(nil)
	})
	keeps(t, "texts", size, func(r *reduce.Reduce) {
		r.Push(updates(of(at(0), 1, text(strings.Repeat("a", 8*size)[:5]))))
		r.Close(nil)
	})
	keeps(t, "Group", 1<<14, func(r *reduce.Reduce) {
		for i := range 1000 {
			reduce.Group(by(nil, greatest(col(0))), nums(1), bag(times(1, text(strconv.Itoa(i)+strings.Repeat("a", 900)))))
		}
	})
}

// What comes to nothing is not kept, nor what is closed.
func TestWhatComesToNothingIsNotKept(t *testing.T) {
	const size = 20000
	var some, undone []api.Update
	for i := range int64(size) {
		some = append(some, of(at(0), 1, num(7), num(i), text("some text that takes room")))
		undone = append(undone, of(at(0), -1, num(7), num(i), text("some text that takes room")))
	}
	keeps(t, "all undone", size, func(r *reduce.Reduce) {
		r.Push(some)
		r.Push(undone)
	})
	keeps(t, "all undone and closed", size, func(r *reduce.Reduce) {
		r.Push(some)
		r.Close(nil)
		r.Push(undone)
		r.Close(nil)
	})
	keeps(t, "undone one by one", size, func(r *reduce.Reduce) {
		for i := range undone {
			r.Push(some[i : i+1])
			r.Push(undone[i : i+1])
		}
		r.Close(nil)
	})
	keeps(t, "closed again and again", size, func(r *reduce.Reduce) {
		for i := range undone {
			r.Push(some[i : i+1])
			r.Close(nil)
			r.Push(undone[i : i+1])
			r.Close(nil)
		}
	})
	keeps(t, "wrong again and again", size, func(*reduce.Reduce) {
		r := made(t, by(cols(0), sum(col(1))))
		wrong := of(at(3), 1, num(7), text("a"))
		for range undone {
			r.Push(updates(wrong))
			r.Close(nil)
			wrong.Diff = -wrong.Diff
		}
	})
	runtime.KeepAlive(some)
	runtime.KeepAlive(undone)
}
