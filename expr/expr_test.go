package expr_test

import (
	"math"
	"reflect"
	"slices"
	"strings"
	"testing"

	"penstock/api"
	"penstock/expr"
)

var (
	null = api.Datum{Kind: api.KindNull}
	yes  = api.Datum{Kind: api.KindBool, Bool: true}
	no   = api.Datum{Kind: api.KindBool}
)

func num(n int64) api.Datum { return api.Datum{Kind: api.KindInt, Int: n} }

func text(s string) api.Datum { return api.Datum{Kind: api.KindText, Text: s} }

func of(data ...api.Datum) api.Row { return data }

func col(n int) api.Expr { return api.Expr{Op: api.ExprCol, Col: n} }

func lit(d api.Datum) api.Expr { return api.Expr{Op: api.ExprLit, Lit: d} }

func fail(n int64) api.Expr { return api.Expr{Op: api.ExprFail, Lit: num(n)} }

func op(o uint8, kids ...api.Expr) api.Expr { return api.Expr{Op: o, Kids: kids} }

// lits is literals, one for each datum.
func lits(data ...api.Datum) []api.Expr {
	var out []api.Expr
	for _, d := range data {
		out = append(out, lit(d))
	}
	return out
}

// data is an operator over literals.
func data(o uint8, operands ...api.Datum) api.Expr { return op(o, lits(operands...)...) }

// broken is 1 / 0.
func broken() api.Expr { return data(api.ExprDiv, num(1), num(0)) }

// nested is e under so many levels of op.
func nested(o uint8, levels int, e api.Expr) api.Expr {
	for range levels {
		e = op(o, e)
	}
	return e
}

// same says whether two expressions are the same; nil Kids are the same as none.
func same(a, b api.Expr) bool {
	return a.Op == b.Op && a.Col == b.Col && a.Lit == b.Lit && slices.EqualFunc(a.Kids, b.Kids, same)
}

// operators is all numbers of operators, with the numbers of Kids that each one takes, of 0 to 7.
func operators() map[uint8][]int {
	return map[uint8][]int{
		api.ExprCol: {0}, api.ExprLit: {0}, api.ExprNeg: {1}, api.ExprAdd: {2}, api.ExprSub: {2}, api.ExprMul: {2},
		api.ExprDiv: {2}, api.ExprMod: {2}, api.ExprConcat: {2}, api.ExprLength: {1}, api.ExprEq: {2}, api.ExprNe: {2},
		api.ExprLt: {2}, api.ExprLe: {2}, api.ExprGt: {2}, api.ExprGe: {2}, api.ExprNot: {1}, api.ExprAnd: {2},
		api.ExprOr: {2}, api.ExprIsNull: {1}, api.ExprCase: {3, 5, 7}, api.ExprCoalesce: {1, 2, 3, 4, 5, 6, 7}, api.ExprFail: {0},
	}
}

// withKids is the operator o over so many nulls, with the literal that it asks for.
func withKids(o uint8, kids int) api.Expr {
	e := op(o, slices.Repeat(lits(null), kids)...)
	switch o {
	case api.ExprLit:
		e.Lit = null
	case api.ExprFail:
		e.Lit = num(1)
	}
	return e
}

func checked(t *testing.T, e api.Expr, want api.Errno) {
	t.Helper()
	if got := expr.Check(e); got != want {
		t.Errorf("Check(%v) = %v, want %v", e, got, want)
	}
}

func TestCheckOperators(t *testing.T) {
	for o := range 256 {
		for kids := range 8 {
			want := api.ErrExprForm
			if slices.Contains(operators()[uint8(o)], kids) {
				want = api.OK
			}
			checked(t, withKids(uint8(o), kids), want)
		}
	}
	checked(t, api.Expr{}, api.ErrExprForm)
	checked(t, api.Expr{Op: api.ExprCol, Kids: []api.Expr{}}, api.OK)
	checked(t, op(api.ExprNot, lits(null, null)[:1]...), api.OK)
}

func TestCheckColumns(t *testing.T) {
	for n, want := range map[int]api.Errno{
		0: api.OK, 1: api.OK, 9999: api.OK, 10000: api.ErrExprForm, -1: api.ErrExprForm,
		math.MaxInt: api.ErrExprForm, math.MinInt: api.ErrExprForm,
	} {
		checked(t, col(n), want)
		checked(t, op(api.ExprAdd, lit(num(1)), col(n)), want)
	}
	for o, kids := range operators() {
		if o == api.ExprCol {
			continue
		}
		for _, n := range []int{1, -1, 9999} {
			e := withKids(o, kids[0])
			e.Col = n
			checked(t, e, api.ErrExprForm)
		}
	}
}

func TestCheckLiterals(t *testing.T) {
	good := of(null, yes, no, num(0), num(math.MinInt64), text(""), text("\x00é"), text(strings.Repeat("a", 1000)))
	bad := of(api.Datum{}, api.Datum{Kind: 5}, api.Datum{Kind: api.KindNull, Int: 1}, api.Datum{Kind: api.KindInt, Bool: true},
		api.Datum{Int: 1}, text("\xff"), text(strings.Repeat("a", 1001)))
	for _, d := range good {
		checked(t, lit(d), api.OK)
	}
	for _, d := range bad {
		checked(t, lit(d), api.ErrExprForm)
		checked(t, op(api.ExprIsNull, lit(d)), api.ErrExprForm)
	}
	for o, kids := range operators() {
		if o == api.ExprLit || o == api.ExprFail {
			continue
		}
		for _, d := range append(good, bad[1:]...) {
			e := withKids(o, kids[0])
			e.Lit = d
			checked(t, e, api.ErrExprForm)
		}
	}
}

func TestCheckFail(t *testing.T) {
	for n, want := range map[int64]api.Errno{
		1: api.OK, 13: api.OK, 65535: api.OK, 0: api.ErrExprForm, -1: api.ErrExprForm, 65536: api.ErrExprForm,
		65537: api.ErrExprForm, 1<<32 + 1: api.ErrExprForm, math.MinInt64: api.ErrExprForm,
	} {
		checked(t, fail(n), want)
	}
	for _, d := range of(api.Datum{}, null, yes, text("1"), api.Datum{Int: 1}, api.Datum{Kind: api.KindInt, Int: 1, Text: "a"},
		api.Datum{Kind: api.KindInt, Int: 1, Bool: true}, api.Datum{Kind: api.KindText, Int: 1}, api.Datum{Kind: 5, Int: 1}) {
		checked(t, api.Expr{Op: api.ExprFail, Lit: d}, api.ErrExprForm)
	}
}

func TestCheckLevels(t *testing.T) {
	for _, e := range []api.Expr{col(0), lit(yes), fail(1)} {
		checked(t, nested(api.ExprNot, 59, e), api.OK)
		checked(t, nested(api.ExprNot, 60, e), api.ErrExprForm)
		checked(t, nested(api.ExprCoalesce, 1000, e), api.ErrExprForm)
	}
	checked(t, op(api.ExprAnd, lit(yes), nested(api.ExprNot, 58, lit(yes))), api.OK)
	checked(t, op(api.ExprAnd, lit(yes), nested(api.ExprNot, 59, lit(yes))), api.ErrExprForm)
	checked(t, nested(api.ExprNot, 59, op(99)), api.ErrExprForm)
}

// ofParts is a valid expression of so many parts, some of them on a third level.
func ofParts(parts int) api.Expr {
	return op(api.ExprCoalesce, append(slices.Repeat(lits(null), parts-3), op(api.ExprNot, lit(null)))...)
}

func TestCheckParts(t *testing.T) {
	checked(t, ofParts(4000), api.OK)
	checked(t, ofParts(4001), api.ErrExprForm)
	checked(t, ofParts(100000), api.ErrExprForm)
	twice := lit(yes)
	for levels := 1; levels < 60; levels++ {
		twice = op(api.ExprAnd, twice, twice) // 2^(levels+1) - 1 parts
		want := api.OK
		if levels >= 11 {
			want = api.ErrExprForm
		}
		checked(t, twice, want)
	}
}

func TestSafe(t *testing.T) {
	unsafe := []uint8{api.ExprNeg, api.ExprAdd, api.ExprSub, api.ExprMul, api.ExprDiv, api.ExprMod, api.ExprConcat, api.ExprFail}
	for o := range 256 {
		want := !slices.Contains(unsafe, uint8(o))
		for kids := range 4 {
			e := withKids(uint8(o), kids) // whether it is valid or not
			for _, x := range []api.Expr{e, op(api.ExprNot, e), op(api.ExprCol, col(-7), e), op(0, col(0), op(200, e), col(1)), nested(api.ExprNot, 58, e)} {
				if got := expr.Safe(x); got != want {
					t.Errorf("Safe(%v) = %v", x, got)
				}
			}
		}
	}
}

func TestSafeLevels(t *testing.T) {
	for levels, want := range map[int]bool{58: true, 59: true, 60: false, 61: false, 10000: false} {
		if got := expr.Safe(nested(api.ExprNot, levels, col(0))); got != want {
			t.Errorf("Safe with %d levels around a column: %v", levels, got)
		}
		if got := expr.Safe(op(api.ExprOr, col(0), nested(0, levels-1, col(-1)))); got != want {
			t.Errorf("Safe with %d levels around a column: %v", levels, got)
		}
	}
	if !expr.Safe(op(api.ExprCoalesce, slices.Repeat(lits(null), 5000)...)) {
		t.Error("Safe does not ask how many parts there are")
	}
}

func TestColumns(t *testing.T) {
	for _, x := range []struct {
		e    api.Expr
		want []int
	}{
		{op(api.ExprAdd, col(3), op(api.ExprMul, col(1), col(3))), []int{1, 3}},
		{col(0), []int{0}},
		{lit(null), nil},
		{api.Expr{}, nil},
		{op(api.ExprCase, col(9), col(8), col(7), col(6), col(9999), col(6), col(0)), []int{0, 6, 7, 8, 9, 9999}},
		{op(api.ExprCol, col(5), col(-5)), []int{-5, 0, 5}},
		{op(77, col(math.MaxInt), op(api.ExprLit, col(math.MinInt), col(10000))), []int{math.MinInt, 10000, math.MaxInt}},
		{api.Expr{Op: api.ExprNot, Col: 4, Kids: []api.Expr{{Op: api.ExprLit, Col: 5}, {Op: 99, Col: 6}}}, nil},
		{nested(api.ExprNeg, 59, col(2)), []int{2}},
		{nested(api.ExprNeg, 60, col(2)), nil},
		{op(api.ExprOr, col(1), nested(api.ExprNot, 10000, col(2)), col(0)), []int{0, 1}},
		{op(api.ExprCoalesce, slices.Repeat([]api.Expr{col(2), col(1)}, 5000)...), []int{1, 2}},
		{op(api.ExprAnd, []api.Expr{col(1), col(2), col(3)}[:2]...), []int{1, 2}},
	} {
		if got := expr.Columns(x.e); !slices.Equal(got, x.want) {
			t.Errorf("Columns(%v) = %v, want %v", x.e, got, x.want)
		}
	}
}

// Nothing that is passed is written to, up to its length or beyond.
func TestArgumentsStayAsTheyAre(t *testing.T) {
	build := func() (api.Expr, []api.Kind, api.Row, []int) {
		kids := []api.Expr{op(api.ExprAdd, col(3), col(1)), op(api.ExprConcat, col(2), lit(text("a"))), op(api.ExprNot, col(0)), fail(1)}
		return op(api.ExprCoalesce, kids[:2]...), []api.Kind{0, api.KindInt, api.KindText, api.KindInt, 9}[:4], of(yes, null, text("b"), num(3), no)[:4], []int{9, 8, 7, 6, 5}[:4]
	}
	e, kinds, r, cols := build()
	expr.Check(e)
	expr.Type(e, kinds)
	expr.Eval(e, r)
	expr.Safe(e)
	got := expr.Columns(e)
	_ = append(got[:1], 77)
	turned, _ := expr.Turn(e, cols)
	_ = append(turned.Kids[0].Kids[:1], fail(2))
	turned.Kids[1] = fail(3)
	expr.Print(e)
	e2, kinds2, r2, cols2 := build()
	if !reflect.DeepEqual(e, e2) || !same(e.Kids[:4][3], fail(1)) || !reflect.DeepEqual(kinds[:5], kinds2[:5]) || !reflect.DeepEqual(r[:5], r2[:5]) || !slices.Equal(cols[:5], cols2[:5]) {
		t.Error(e, kinds, r, cols)
	}
}
