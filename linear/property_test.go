package linear_test

import (
	"math"
	"math/rand/v2"
	"slices"
	"testing"

	"penstock/api"
	"penstock/delta"
	"penstock/expr"
	"penstock/linear"
	"penstock/row"
	"penstock/stamp"
)

func drawn[T any](r *rand.Rand, l ...T) T { return l[r.IntN(len(l))] }

func someDatum(r *rand.Rand) api.Datum {
	return drawn(r, null(), truth(false), truth(true), num(0), num(1), num(-12), num(math.MinInt64), text(""), text("a"), text("é"))
}

func someRow(r *rand.Rand) api.Row {
	var out api.Row
	for range r.IntN(4) {
		out = append(out, someDatum(r))
	}
	return out
}

func someTime(r *rand.Rand) api.Time {
	t := at(drawn[uint64](r, 0, 1, 2, math.MaxUint64, math.MaxUint64-1))
	for range r.IntN(5) {
		t.Loops = append(t.Loops, drawn[uint32](r, 0, 1, 2, math.MaxUint32, math.MaxUint32-1))
	}
	return t
}

func someDiff(r *rand.Rand) int64 {
	return drawn[int64](r, -2, -1, 0, 1, 1, 2, 3, math.MinInt64, math.MaxInt64)
}

// someUpdates is updates of which often several have the same row and time.
func someUpdates(r *rand.Rand) []api.Update {
	var out []api.Update
	for range r.IntN(40) {
		u := update(someDiff(r), someTime(r), someRow(r))
		if len(out) > 0 && r.IntN(2) == 0 {
			u.Row = drawn(r, out...).Row
		}
		if len(out) > 0 && r.IntN(2) == 0 {
			u.Time = drawn(r, out...).Time
		}
		out = append(out, u)
	}
	return out
}

// kids is how many each of some operators has.
func kids() map[uint8]int {
	return map[uint8]int{api.ExprNeg: 1, api.ExprAdd: 2, api.ExprDiv: 2, api.ExprConcat: 2, api.ExprLength: 1, api.ExprEq: 2, api.ExprLt: 2, api.ExprNot: 1,
		api.ExprAnd: 2, api.ExprOr: 2, api.ExprIsNull: 1, api.ExprCase: 3, api.ExprCoalesce: 2, 24: 1}
}

func someExpr(r *rand.Rand, levels int) api.Expr {
	if levels == 1 || r.IntN(4) == 0 {
		return drawn(r, col(0), col(0), col(1), col(2), col(0), col(1), lit(someDatum(r)), lit(truth(true)), fail(9))
	}
	e := op(drawn(r, api.ExprNeg, api.ExprAdd, api.ExprDiv, api.ExprConcat, api.ExprLength, api.ExprEq, api.ExprLt, api.ExprNot,
		api.ExprAnd, api.ExprOr, api.ExprIsNull, api.ExprIsNull, api.ExprCase, api.ExprCoalesce, 24))
	for range kids()[e.Op] {
		e.Kids = append(e.Kids, someExpr(r, levels-1))
	}
	return e
}

func someExprs(r *rand.Rand) []api.Expr {
	var out []api.Expr
	for range r.IntN(4) {
		out = append(out, someExpr(r, 3))
	}
	return out
}

func somePath(r *rand.Rand) api.Path {
	p := api.Path{Leave: r.IntN(5) - 1, Add: drawn[uint32](r, 0, 0, 1, 2, math.MaxUint32)}
	for range r.IntN(3) {
		p.Enter = append(p.Enter, drawn[uint32](r, 0, 1, math.MaxUint32))
	}
	return p
}

func someColumns(r *rand.Rand) []int {
	var out []int
	for range r.IntN(4) {
		out = append(out, r.IntN(6)-1)
	}
	return out
}

// operation is one of the calls, with some arguments; those that have no errors return none.
type operation struct {
	name string
	call func(l []api.Update) ([]api.Update, []api.Update)
	// plain is what the operation makes of one update, and whether it makes anything.
	plain func(u api.Update) (api.Update, bool, api.Errno)
}

// quiet is a call that has no errors.
func quiet(call func(l []api.Update) []api.Update) func(l []api.Update) ([]api.Update, []api.Update) {
	return func(l []api.Update) ([]api.Update, []api.Update) { return call(l), nil }
}

// some is all calls, with arguments by chance.
func some(r *rand.Rand) []operation {
	e, cols, p, workers := someExprs(r), someColumns(r), somePath(r), r.IntN(9)
	w := r.IntN(workers + 1)
	return []operation{
		{"Map", func(l []api.Update) ([]api.Update, []api.Update) { return linear.Map(l, e) }, func(u api.Update) (api.Update, bool, api.Errno) {
			added := make([]api.Datum, len(e))
			for i, x := range e {
				d, err := expr.Eval(x, u.Row)
				if err != api.OK {
					return u, false, err
				}
				added[i] = d
			}
			return update(u.Diff, u.Time, slices.Concat(u.Row, added)), true, api.OK
		}},
		{"Filter", func(l []api.Update) ([]api.Update, []api.Update) { return linear.Filter(l, e) }, func(u api.Update) (api.Update, bool, api.Errno) {
			for _, x := range e {
				d, err := expr.Eval(x, u.Row)
				if err == api.OK && d.Kind != api.KindBool && d.Kind != api.KindNull {
					err = api.ErrExprType
				}
				if err != api.OK || d != truth(true) {
					return u, false, err
				}
			}
			return u, true, api.OK
		}},
		{"Project", quiet(func(l []api.Update) []api.Update { return linear.Project(l, cols) }), func(u api.Update) (api.Update, bool, api.Errno) {
			out := slices.Repeat(of(null()), len(cols))
			for i, c := range cols {
				for k, d := range u.Row {
					if k == c {
						out[i] = d
					}
				}
			}
			return update(u.Diff, u.Time, out), true, api.OK
		}},
		{"Negate", quiet(linear.Negate), func(u api.Update) (api.Update, bool, api.Errno) {
			return update(0-u.Diff, u.Time, u.Row), true, api.OK
		}},
		{"Move", quiet(func(l []api.Update) []api.Update { return linear.Move(l, p) }), func(u api.Update) (api.Update, bool, api.Errno) {
			t, err := stamp.Apply(p, u.Time)
			return update(u.Diff, t, u.Row), err == api.OK, api.OK
		}},
		{"Part", quiet(func(l []api.Update) []api.Update { return linear.Part(l, cols, workers, w) }), func(u api.Update) (api.Update, bool, api.Errno) {
			return u, workers > 0 && row.Hash(u.Row, cols)%uint64(workers) == uint64(w), api.OK
		}},
	}
}

// plainly is what an operation makes of updates, one by one.
func (o operation) plainly(l []api.Update) (out, errs []api.Update) {
	for _, u := range l {
		made, any, err := o.plain(u)
		if err != api.OK {
			errs = append(errs, update(u.Diff, u.Time, nums(int64(err))))
		} else if any {
			out = append(out, made)
		}
	}
	return out, errs
}

func TestAgainstThePlainModel(t *testing.T) {
	r := rand.New(rand.NewPCG(13, 1))
	made, failed := map[string]int{}, map[string]int{}
	for range 1500 {
		for _, o := range some(r) {
			l := someUpdates(r)
			want, wantErrs := o.plainly(l)
			got, errs := o.call(l)
			if !sameUpdates(got, want) || !sameUpdates(errs, wantErrs) {
				t.Fatalf("%s of %v is %v, %v, want %v, %v", o.name, l, got, errs, want, wantErrs)
			}
			made[o.name] += len(got)
			failed[o.name] += len(errs)
		}
	}
	for _, name := range []string{"Map", "Filter", "Project", "Negate", "Move", "Part"} {
		if made[name] < 1000 {
			t.Errorf("%s returned only %d updates", name, made[name])
		}
	}
	if failed["Map"] < 1000 || failed["Filter"] < 1000 {
		t.Errorf("only %v errors", failed)
	}
}

// Each operation commutes with combining updates: of updates that come to the same, it returns what comes to the same.
func TestCommutesWithCombining(t *testing.T) {
	r := rand.New(rand.NewPCG(13, 2))
	for range 500 {
		for _, o := range some(r) {
			l := someUpdates(r)
			want, wantErrs := o.call(l)
			l = delta.Sum(l)
			for range r.IntN(5) { // apart again, with what comes to nothing
				u := update(someDiff(r), someTime(r), someRow(r))
				l = append(l, u, update(-u.Diff, u.Time, u.Row))
			}
			r.Shuffle(len(l), func(i, j int) { l[i], l[j] = l[j], l[i] })
			got, errs := o.call(l)
			if !sameUpdates(delta.Sum(got), delta.Sum(want)) || !sameUpdates(delta.Sum(errs), delta.Sum(wantErrs)) {
				t.Fatalf("%s of %v comes to %v, %v, and before to %v, %v", o.name, l, got, errs, want, wantErrs)
			}
		}
	}
}

// What is returned does not depend on how the updates are divided into calls.
func TestDoesNotDependOnDivision(t *testing.T) {
	r := rand.New(rand.NewPCG(13, 3))
	for range 500 {
		for _, o := range some(r) {
			l := someUpdates(r)
			want, wantErrs := o.call(l)
			var got, errs []api.Update
			for rest := l; len(rest) > 0; {
				n := r.IntN(len(rest)) + 1
				more, moreErrs := o.call(rest[:n])
				got, errs, rest = append(got, more...), append(errs, moreErrs...), rest[n:]
			}
			if !sameUpdates(got, want) || !sameUpdates(errs, wantErrs) {
				t.Fatalf("%s of %v in several calls is %v, %v, in one %v, %v", o.name, l, got, errs, want, wantErrs)
			}
		}
	}
}

// Each update belongs to one worker, and those whose columns are the same to the same one.
func TestEachUpdateBelongsToOneWorker(t *testing.T) {
	r := rand.New(rand.NewPCG(13, 4))
	for range 300 {
		l, cols, workers := someUpdates(r), someColumns(r), 1+r.IntN(api.MaxWorkers)
		for i := range l {
			l[i].Diff = int64(i) // by which it is known again
		}
		var all []api.Update
		owner := map[string]int{}
		for w := -2; w < workers+2; w++ {
			mine := linear.Part(l, cols, workers, w)
			if (w < 0 || w >= workers) && len(mine) > 0 {
				t.Fatalf("worker %d of %d has %v", w, workers, mine)
			}
			for _, u := range mine {
				there := slices.DeleteFunc(slices.Clone(cols), func(c int) bool { return c < 0 || c >= len(u.Row) })
				key, _ := row.Pick(u.Row, there)
				code, _ := row.Encode(key)
				if before, seen := owner[string(code)]; seen && before != w {
					t.Fatalf("%v belongs to %d and %d of %d", u.Row, before, w, workers)
				}
				owner[string(code)] = w
			}
			all = append(all, mine...)
		}
		slices.SortFunc(all, func(a, b api.Update) int { return int(a.Diff - b.Diff) })
		if !sameUpdates(all, l) {
			t.Fatalf("the parts of %v by %v for %d are %v", l, cols, workers, all)
		}
	}
}

// What was moved on two ways is what was moved on the one that has their effect.
func TestMoveOnTwoWays(t *testing.T) {
	r := rand.New(rand.NewPCG(13, 5))
	for range 3000 {
		a, b, u := somePath(r), somePath(r), update(1, someTime(r), nums(1))
		both, err := stamp.Then(a, b)
		got := linear.Move(linear.Move(updates(u), a), b)
		if err != api.OK || len(got) == 0 {
			continue
		}
		if want := linear.Move(updates(u), both); !sameUpdates(got, want) {
			t.Fatalf("%v moved by %v and %v is %v, by %v %v", u.Time, a, b, got, both, want)
		}
	}
}

// What passes a filter is what has true in a column that is mapped, whose errors are the filter's, too.
func TestFilterAgreesWithMap(t *testing.T) {
	r := rand.New(rand.NewPCG(13, 6))
	for range 2000 {
		l := someUpdates(r)
		for i := range l {
			l[i].Row = slices.Concat(l[i].Row, of(null(), null(), null()))[:3]
		}
		e := exprs(op(api.ExprEq, someExpr(r, 3), someExpr(r, 2)))
		wide, mapped := linear.Map(l, e)
		want, none := linear.Filter(wide, exprs(col(3)))
		got, errs := linear.Filter(l, e)
		if !sameUpdates(got, linear.Project(want, []int{0, 1, 2})) || !sameUpdates(errs, mapped) || len(none) > 0 {
			t.Fatalf("Filter(%v, %s) = %v, %v, want %v, %v", l, expr.Print(e[0]), got, errs, want, mapped)
		}
	}
}
