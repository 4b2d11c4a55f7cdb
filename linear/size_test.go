package linear_test

import (
	"testing"

	"penstock/api"
	"penstock/linear"
)

// many is n updates, each with a row of its own.
func many(n int64) []api.Update {
	var out []api.Update
	for i := range n {
		out = append(out, update(1, at(uint64(i), 1), of(num(i), text("some text"))))
	}
	return out
}

func TestManyUpdates(t *testing.T) {
	const n = 100000
	l := many(n)
	odd := op(api.ExprEq, op(api.ExprMod, col(0), lit(num(2))), lit(num(1)))
	mapped, none := linear.Map(l, exprs(odd))
	filtered, nothing := linear.Filter(l, exprs(odd))
	if len(mapped) != n || len(filtered) != n/2 || len(none)+len(nothing) > 0 {
		t.Errorf("%d and %d updates", len(mapped), len(filtered))
	}
	_, errs := linear.Map(l, exprs(op(api.ExprAdd, col(0), col(1))))
	_, more := linear.Filter(l, exprs(col(1)))
	if len(errs) != n || len(more) != n || !sameUpdates(errs, more) {
		t.Errorf("%d and %d errors", len(errs), len(more))
	}
	if got := linear.Project(linear.Negate(linear.Negate(l)), []int{0, 1}); !sameUpdates(got, l) {
		t.Errorf("%d updates", len(got))
	}
	got := linear.Move(linear.Move(l, api.Path{Enter: []uint32{0}}), api.Path{Leave: 1})
	if !sameUpdates(got, l) {
		t.Errorf("%d updates", len(got))
	}
}

// The workers' parts of many updates are about equal.
func TestPartsOfManyUpdates(t *testing.T) {
	const n = 100000
	l := many(n)
	for w := range api.MaxWorkers {
		if got := len(linear.Part(l, []int{0}, api.MaxWorkers, w)); got < n/api.MaxWorkers*9/10 || got > n/api.MaxWorkers*11/10 {
			t.Errorf("worker %d has %d updates", w, got)
		}
	}
}

func TestManyExpressions(t *testing.T) {
	const n = 20000
	var l []api.Expr
	var cols []int
	for range n {
		l, cols = append(l, col(1)), append(cols, 1)
	}
	u := up(nums(5, 6))
	got, errs := linear.Map(u, l)
	if len(got) != 1 || len(got[0].Row) != n+2 || len(errs) > 0 || got[0].Row[n+1] != num(6) {
		t.Errorf("%d updates, %v", len(got), errs)
	}
	if got := linear.Project(got, cols); len(got) != 1 || len(got[0].Row) != n || got[0].Row[n-1] != num(6) {
		t.Errorf("%d updates", len(got))
	}
}
