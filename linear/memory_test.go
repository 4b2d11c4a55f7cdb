package linear_test

import (
	"runtime"
	"slices"
	"strings"
	"testing"
	"unsafe"

	"penstock/api"
	"penstock/linear"
)

// given is what all the calls are given, where each list has more behind its end, which is no part of it; the empty ones, too.
type given struct {
	l     []api.Update
	exprs []api.Expr
	cols  []int
	path  api.Path
}

func roomyList[S ~[]T, T any](l S, more ...T) S { return append(slices.Clone(l), more...)[:len(l)] }

func roomy() given {
	g := given{
		l:     updates(update(1, at(1, 2), of(truth(true), text("abc"))), update(2, at(1, 2), of(truth(true), text("abc"))), update(3, at(1), of(truth(false), num(2))), update(4, at(2), nil), update(5, at(1, 2), nums(0))),
		exprs: exprs(col(0), op(api.ExprNot, col(0)), op(api.ExprEq, col(1), lit(text("abc"))), lit(text("xyz"))),
		cols:  []int{1, 0, 1, 7, -1},
		path:  api.Path{Add: 1, Enter: []uint32{5}},
	}
	for i, u := range g.l {
		g.l[i].Row, g.l[i].Time.Loops = roomyList(u.Row, num(70), null()), roomyList(u.Time.Loops, 0, 80)
	}
	for i, e := range g.exprs {
		g.exprs[i].Kids = roomyList(e.Kids, fail(9), col(0))
	}
	g.l, g.exprs, g.cols, g.path.Enter = roomyList(g.l, update(1, at(2, 2), of(text("behind")))), roomyList(g.exprs, fail(9)), roomyList(g.cols, 0), roomyList(g.path.Enter, 7)
	g.l[0].Row, g.l[0].Time = g.l[1].Row, g.l[1].Time // two updates may have one row and one time
	return g
}

// memory is all lists of what is given or answered, with what is behind their ends.
type memory struct {
	updates [][]api.Update
	rows    []api.Row
	loops   [][]uint32
	exprs   [][]api.Expr
	cols    [][]int
}

func (m *memory) addUpdates(l []api.Update) {
	l = l[:cap(l)]
	m.updates = append(m.updates, l)
	for _, u := range l {
		m.rows = append(m.rows, u.Row[:cap(u.Row)])
		m.loops = append(m.loops, u.Time.Loops[:cap(u.Time.Loops)])
	}
}

func (m *memory) addExprs(l []api.Expr) {
	l = l[:cap(l)]
	m.exprs = append(m.exprs, l)
	for _, e := range l {
		m.addExprs(e.Kids)
	}
}

func memoryOf(g given) memory {
	var m memory
	m.addUpdates(g.l)
	m.addExprs(g.exprs)
	m.cols = append(m.cols, g.cols[:cap(g.cols)])
	m.loops = append(m.loops, g.path.Enter[:cap(g.path.Enter)])
	return m
}

// spoil overwrites all of it.
func (m *memory) spoil() {
	overwrite(m.loops, 999)
	overwrite(m.rows, text("spoilt"))
	overwrite(m.updates, update(9, at(999, 9), of(text("spoilt"))))
	overwrite(m.exprs, fail(999))
	overwrite(m.cols, 999)
}

func overwrite[T any, S ~[]T](lists []S, x T) {
	for _, l := range lists {
		for i := range l {
			l[i] = x
		}
	}
}

func sameExpr(a, b api.Expr) bool {
	return a.Op == b.Op && a.Col == b.Col && a.Lit == b.Lit && slices.EqualFunc(a.Kids, b.Kids, sameExpr)
}

func same(a, b memory) bool {
	return slices.EqualFunc(a.updates, b.updates, sameUpdates) && slices.EqualFunc(a.rows, b.rows, slices.Equal) && slices.EqualFunc(a.loops, b.loops, slices.Equal) &&
		slices.EqualFunc(a.exprs, b.exprs, func(x, y []api.Expr) bool { return slices.EqualFunc(x, y, sameExpr) }) && slices.EqualFunc(a.cols, b.cols, slices.Equal)
}

// overlap says whether a and b have an element in common; an empty one that stands where the other one begins holds it in memory, too.
func overlap[T any](a, b []T) bool {
	if a == nil || b == nil {
		return false
	}
	if cap(a)+cap(b) > 0 && unsafe.SliceData(a) == unsafe.SliceData(b) {
		return true
	}
	for i := range a {
		for k := range b {
			if &a[i] == &b[k] {
				return true
			}
		}
	}
	return false
}

func anyOverlap[T any, S ~[]T](a, b []S, within bool) bool {
	for i := range a {
		for k := range b {
			if !(within && i == k) && overlap(a[i], b[k]) {
				return true
			}
		}
	}
	return false
}

// shares says whether something of a is in the memory of b; of two different lists of it, if within.
func shares(a, b memory, within bool) bool {
	return anyOverlap(a.updates, b.updates, within) || anyOverlap(a.rows, b.rows, within) || anyOverlap(a.loops, b.loops, within)
}

// both is the memory of two lists that are answered together.
func both(l, errs []api.Update) (m memory) {
	m.addUpdates(l)
	m.addUpdates(errs)
	return m
}

// answers is each call, with the memory of its answer.
func answers() map[string]func(g given) memory {
	return map[string]func(g given) memory{
		"Map":            func(g given) memory { return both(linear.Map(g.l, g.exprs[1:])) },
		"Map by nothing": func(g given) memory { return both(linear.Map(g.l, g.exprs[:0])) },
		"Map by texts":   func(g given) memory { return both(linear.Map(g.l, g.exprs[3:])) },
		"Filter":         func(g given) memory { return both(linear.Filter(g.l, g.exprs[:1])) },
		"Filter by two":  func(g given) memory { return both(linear.Filter(g.l, g.exprs[:2])) },
		"Filter by none": func(g given) memory { return both(linear.Filter(g.l, nil)) },
		"Project":        func(g given) memory { return both(linear.Project(g.l, g.cols), nil) },
		"Project by 0":   func(g given) memory { return both(linear.Project(g.l, g.cols[:0]), nil) },
		"Negate":         func(g given) memory { return both(linear.Negate(g.l), nil) },
		"Move":           func(g given) memory { return both(linear.Move(g.l, g.path), nil) },
		"Move by none":   func(g given) memory { return both(linear.Move(g.l, api.Path{}), nil) },
		"Move out":       func(g given) memory { return both(linear.Move(g.l, api.Path{Leave: 1}), nil) },
		"Part":           func(g given) memory { return both(linear.Part(g.l, g.cols, 1, 0), nil) },
		"Part of two":    func(g given) memory { return both(linear.Part(g.l, g.cols, 2, 0), linear.Part(g.l, g.cols, 2, 1)) },
	}
}

func TestAnswersAreNewMemory(t *testing.T) {
	for name, call := range answers() {
		g := roomy()
		first, second := call(g), call(g)
		if len(first.rows) == 0 {
			t.Errorf("%s: nothing is answered", name)
		}
		if shares(first, second, false) {
			t.Errorf("%s: two answers share memory", name)
		}
		if shares(first, first, true) {
			t.Errorf("%s: two lists of an answer share memory", name)
		}
		if shares(second, memoryOf(g), false) {
			t.Errorf("%s: an answer shares memory with an argument", name)
		}
		if !same(memoryOf(g), memoryOf(roomy())) {
			t.Errorf("%s: an argument has changed: %v", name, g)
		}
		first.spoil()
		mine := memoryOf(g)
		mine.spoil()
		if !same(second, call(roomy())) {
			t.Errorf("%s: an answer has changed: %v", name, second)
		}
	}
}

// Texts are part of a row: they do not stay in the memory of what was given.
func TestTextsAreNewMemory(t *testing.T) {
	whole := strings.Repeat("abc", 1000)
	part := whole[5:10]
	l := up(of(text(part)))
	mapped, _ := linear.Map(l, exprs(col(0), lit(text(part)), op(api.ExprCoalesce, lit(text(part)))))
	filtered, _ := linear.Filter(l, nil)
	places := []*byte{unsafe.StringData(part)}
	for _, got := range []api.Row{
		mapped[0].Row, filtered[0].Row, linear.Project(l, []int{0, 0})[0].Row, linear.Negate(l)[0].Row,
		linear.Move(l, api.Path{Add: 1})[0].Row, linear.Part(l, nil, 1, 0)[0].Row,
	} {
		for _, d := range got {
			if d.Text != part {
				t.Fatalf("%q", d.Text)
			}
			places = append(places, unsafe.StringData(d.Text))
		}
	}
	if len(places) != 11 {
		t.Errorf("%d texts", len(places))
	}
	for i, p := range places {
		if slices.Contains(places[:i], p) {
			t.Error("two texts are in the same memory")
		}
	}
}

func heap() uint64 {
	var m runtime.MemStats
	runtime.GC()
	runtime.ReadMemStats(&m)
	return m.HeapAlloc
}

// What was given is not kept by what is answered, even where nothing of it is: rows without columns, and times without counters.
func TestNothingIsRetained(t *testing.T) {
	const size = 1 << 20
	for name, call := range answers() {
		before := heap()
		large := make(api.Row, size)
		g := roomy()
		for i := range g.l {
			g.l[i].Row = append(large[10*i:10*i], g.l[i].Row...)
			g.l[i].Time.Loops = append(make([]uint32, 0, size), g.l[i].Time.Loops...)
		}
		m := call(g)
		g, large = given{}, nil
		if after := heap(); after > before+size {
			t.Errorf("%s: the heap grew from %d to %d", name, before, after)
		}
		runtime.KeepAlive(m)
		runtime.KeepAlive(large)
		runtime.KeepAlive(g)
	}
}
