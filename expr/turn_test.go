package expr_test

import (
	"math"
	"slices"
	"testing"

	"penstock/api"
	"penstock/expr"
)

func TestTurn(t *testing.T) {
	for _, x := range []struct {
		e    api.Expr
		cols []int
		want api.Expr
		err  api.Errno
	}{
		{col(0), []int{7}, col(7), api.OK},
		{col(1), []int{-1, 9999, 10000}, col(9999), api.OK}, // what no column is turned into may be anything
		{lit(text("a")), nil, lit(text("a")), api.OK},
		{fail(9), []int{-1}, fail(9), api.OK},
		{op(api.ExprAdd, col(1), op(api.ExprMul, col(0), col(1))), []int{5, 0}, op(api.ExprAdd, col(0), op(api.ExprMul, col(5), col(0))), api.OK},
		{op(api.ExprCase, col(0), col(1), lit(null)), []int{3, 3}, op(api.ExprCase, col(3), col(3), lit(null)), api.OK},
		{nested(api.ExprNot, 59, col(0)), []int{1}, nested(api.ExprNot, 59, col(1)), api.OK},
		{ofParts(4000), nil, ofParts(4000), api.OK},
		{api.Expr{Op: api.ExprLit, Lit: null, Kids: []api.Expr{}}, []int{}, lit(null), api.OK},
		{col(0), nil, api.Expr{}, api.ErrExprForm},
		{col(1), []int{5, 6}[:1], api.Expr{}, api.ErrExprForm},
		{op(api.ExprAdd, col(0), col(1)), []int{5}, api.Expr{}, api.ErrExprForm},
		{op(api.ExprAdd, col(0), col(1)), []int{5, -1}, api.Expr{}, api.ErrExprForm},
		{op(api.ExprAdd, col(0), col(1)), []int{10000, 0}, api.Expr{}, api.ErrExprForm},
		{col(0), []int{math.MaxInt}, api.Expr{}, api.ErrExprForm},
		{col(0), []int{math.MinInt}, api.Expr{}, api.ErrExprForm},
		{col(-1), []int{5}, api.Expr{}, api.ErrExprForm},
		{col(10000), make([]int, 20000), api.Expr{}, api.ErrExprForm},
		{api.Expr{}, []int{5}, api.Expr{}, api.ErrExprForm},
		{op(api.ExprNot), []int{5}, api.Expr{}, api.ErrExprForm},
		{op(api.ExprNot, op(api.ExprNot, lit(api.Datum{}))), []int{5}, api.Expr{}, api.ErrExprForm},
		{nested(api.ExprNot, 60, col(0)), []int{1}, api.Expr{}, api.ErrExprForm},
		{ofParts(4001), nil, api.Expr{}, api.ErrExprForm},
	} {
		got, err := expr.Turn(x.e, x.cols)
		if err != x.err || !same(got, x.want) {
			t.Errorf("Turn(%v, %v) = %v, %v, want %v, %v", x.e, x.cols, got, err, x.want, x.err)
		}
	}
}

// spread is every list of Kids in e.
func spread(e api.Expr) [][]api.Expr {
	out := [][]api.Expr{e.Kids}
	for _, kid := range e.Kids {
		out = append(out, spread(kid)...)
	}
	return out
}

func TestTurnIsNewMemory(t *testing.T) {
	build := func() api.Expr {
		kid := op(api.ExprAdd, col(0), col(1))
		return op(api.ExprMul, kid, kid) // the two share their Kids
	}
	e := build()
	first, _ := expr.Turn(e, []int{0, 1})
	second, _ := expr.Turn(e, []int{0, 1})
	lists := append(spread(first), spread(second)...)
	for i, l := range lists {
		if len(l) == 0 {
			continue
		}
		l[0] = fail(1)
		_ = append(l[:len(l):cap(l)], fail(2))
		for _, k := range lists[i+1:] {
			if slices.ContainsFunc(k, func(e api.Expr) bool { return e.Op == api.ExprFail }) {
				t.Fatal("two lists share memory")
			}
		}
		l[0] = col(0)
	}
	if !same(e, build()) {
		t.Error(e)
	}
}
