package expr_test

import (
	"math"
	"slices"
	"strings"
	"testing"
	"unsafe"

	"penstock/api"
	"penstock/datum"
	"penstock/expr"
)

func evaluated(t *testing.T, e api.Expr, r api.Row, want api.Datum, wantErr api.Errno) {
	t.Helper()
	if d, err := expr.Eval(e, r); d != want || err != wantErr {
		t.Errorf("Eval(%s, %v) = %v, %v, want %v, %v", expr.Print(e), r, d, err, want, wantErr)
	}
}

// operands is data of all kinds, and some that may not be.
func operands() []api.Datum {
	return []api.Datum{
		null, yes, no, num(0), num(1), num(-1), num(7), num(-2), num(math.MinInt64), num(math.MaxInt64),
		text(""), text("a"), text("né"), text(strings.Repeat("a", 600)), text(strings.Repeat("a", 1001)), text("\xff"),
		{}, {Kind: 5}, {Kind: api.KindNull, Int: 1}, {Kind: api.KindBool, Bool: true, Int: 1}, {Kind: api.KindInt, Text: "a"},
	}
}

// turnedError is what an operation of datum tells of wrong operands, as an expression tells it.
func turnedError(e api.Errno) api.Errno {
	if e == api.ErrDatumForm {
		return api.ErrExprType
	}
	return e
}

func TestEvalComputesAsDatumDoes(t *testing.T) {
	ones := map[uint8]func(a api.Datum) (api.Datum, api.Errno){api.ExprNeg: datum.Neg, api.ExprLength: datum.Length, api.ExprNot: datum.Not}
	twos := map[uint8]func(a, b api.Datum) (api.Datum, api.Errno){
		api.ExprAdd: datum.Add, api.ExprSub: datum.Sub, api.ExprMul: datum.Mul, api.ExprDiv: datum.Div, api.ExprMod: datum.Mod, api.ExprConcat: datum.Concat,
	}
	for o := api.ExprEq; o <= api.ExprGe; o++ {
		twos[o] = func(a, b api.Datum) (api.Datum, api.Errno) { return datum.Compare(o, a, b) }
	}
	for _, a := range operands() {
		for o, f := range ones {
			d, e := f(a)
			evaluated(t, op(o, col(1)), of(null, a), d, turnedError(e))
		}
		for _, b := range operands() {
			for o, f := range twos {
				d, e := f(a, b)
				evaluated(t, op(o, col(1), col(0)), of(b, a), d, turnedError(e))
			}
		}
	}
}

func TestEvalOfLeaves(t *testing.T) {
	for _, d := range operands() {
		evaluated(t, col(1), of(null, d, yes), d, api.OK) // unchanged, whatever it is
		if datum.Check(d) == api.OK {
			evaluated(t, lit(d), nil, d, api.OK)
		}
		evaluated(t, op(api.ExprIsNull, col(0)), of(d), api.Datum{Kind: api.KindBool, Bool: d.Kind == api.KindNull}, api.OK)
	}
	for _, n := range []int64{1, 10, 13, 20, 30, 31, 192, 65535} {
		evaluated(t, fail(n), nil, api.Datum{}, api.Errno(n))
		for _, e := range []api.Expr{
			op(api.ExprNeg, fail(n)), op(api.ExprIsNull, fail(n)), op(api.ExprNot, fail(n)), op(api.ExprLength, fail(n)),
			op(api.ExprAdd, fail(n), lit(num(1))), op(api.ExprAdd, lit(num(1)), fail(n)), op(api.ExprEq, lit(null), fail(n)),
			op(api.ExprAnd, fail(n), lit(no)), op(api.ExprAnd, lit(null), fail(n)), op(api.ExprOr, fail(n), lit(yes)), op(api.ExprOr, lit(null), fail(n)),
			op(api.ExprCase, fail(n), lit(yes), lit(no)), op(api.ExprCase, lit(yes), fail(n), lit(no)), op(api.ExprCase, lit(no), lit(yes), fail(n)),
			op(api.ExprCoalesce, fail(n), lit(yes)), op(api.ExprCoalesce, lit(null), fail(n), lit(yes)), nested(api.ExprCoalesce, 59, fail(n)),
		} {
			evaluated(t, e, nil, api.Datum{}, api.Errno(n))
		}
	}
}

func TestEvalExamples(t *testing.T) {
	div := op(api.ExprDiv, col(0), col(1))
	evaluated(t, div, of(num(7), num(2)), num(3), api.OK)
	evaluated(t, div, of(num(7), num(0)), api.Datum{}, api.ErrDatumZero)
	evaluated(t, div, of(null, num(0)), null, api.OK)
	part := op(api.ExprGt, op(api.ExprDiv, lit(num(1)), col(0)), lit(num(0)))
	evaluated(t, op(api.ExprOr, op(api.ExprEq, col(0), lit(num(0))), part), of(num(0)), yes, api.OK)
	evaluated(t, op(api.ExprAnd, op(api.ExprNe, col(0), lit(num(0))), part), of(num(0)), no, api.OK)
	evaluated(t, op(api.ExprAnd, lit(null), op(api.ExprEq, broken(), lit(num(1)))), nil, api.Datum{}, api.ErrDatumZero)
	evaluated(t, op(api.ExprCoalesce, col(0), lit(num(5))), of(null), num(5), api.OK)
	evaluated(t, op(api.ExprCase, lit(null), lit(num(1)), lit(num(2))), nil, num(2), api.OK)
	evaluated(t, data(api.ExprNot, num(5)), nil, api.Datum{}, api.ErrExprType)
}

func TestEvalOfAndAndOr(t *testing.T) {
	turn := map[api.Datum]api.Datum{null: null, yes: no, no: yes}
	for _, x := range [][3]api.Datum{
		{yes, yes, yes}, {yes, no, no}, {yes, null, null}, {no, yes, no}, {no, no, no}, {no, null, no},
		{null, yes, null}, {null, no, no}, {null, null, null},
	} {
		evaluated(t, data(api.ExprAnd, x[0], x[1]), nil, x[2], api.OK)
		evaluated(t, data(api.ExprOr, turn[x[0]], turn[x[1]]), nil, turn[x[2]], api.OK)
	}
	for _, second := range []api.Expr{broken(), fail(77), lit(num(5)), lit(text("a")), col(0)} {
		evaluated(t, op(api.ExprAnd, lit(no), second), of(api.Datum{}), no, api.OK)
		evaluated(t, op(api.ExprOr, lit(yes), second), of(api.Datum{}), yes, api.OK)
	}
	for _, first := range []api.Datum{yes, null} {
		evaluated(t, op(api.ExprAnd, lit(first), broken()), nil, api.Datum{}, api.ErrDatumZero)
		evaluated(t, op(api.ExprOr, lit(turn[first]), broken()), nil, api.Datum{}, api.ErrDatumZero)
	}
}

// In a condition, and as a Kid of And or Or, what datum refuses is neither a boolean nor null.
func TestEvalWantsBooleans(t *testing.T) {
	for _, d := range operands() {
		if d == null || d == yes || d == no {
			continue
		}
		for _, e := range []api.Expr{
			op(api.ExprAnd, col(0), lit(no)), op(api.ExprAnd, col(0), broken()), op(api.ExprAnd, lit(yes), col(0)), op(api.ExprAnd, lit(null), col(0)),
			op(api.ExprOr, col(0), lit(yes)), op(api.ExprOr, col(0), fail(9)), op(api.ExprOr, lit(no), col(0)), op(api.ExprOr, lit(null), col(0)),
			op(api.ExprAnd, col(0), col(0)), op(api.ExprOr, col(0), col(0)),
			op(api.ExprCase, col(0), lit(yes), lit(no)), op(api.ExprCase, col(0), broken(), broken()),
			op(api.ExprCase, lit(null), lit(yes), col(0), lit(yes), broken()),
		} {
			evaluated(t, e, of(d), api.Datum{}, api.ErrExprType)
		}
	}
	for _, d := range []api.Datum{{Kind: api.KindBool, Int: 1}, {Kind: api.KindBool, Bool: true, Text: "a"}, {Kind: api.KindNull, Bool: true}} {
		evaluated(t, op(api.ExprAnd, col(0), lit(no)), of(d), api.Datum{}, api.ErrExprType)
		evaluated(t, op(api.ExprOr, col(0), lit(yes)), of(d), api.Datum{}, api.ErrExprType)
		evaluated(t, op(api.ExprCase, col(0), lit(no), lit(no)), of(d), api.Datum{}, api.ErrExprType)
		evaluated(t, op(api.ExprNot, col(0)), of(d), api.Datum{}, api.ErrExprType)
	}
}

func TestEvalOfCase(t *testing.T) {
	one, two, three := lit(num(1)), lit(num(2)), lit(num(3))
	for _, first := range []api.Datum{yes, no, null} {
		for _, second := range []api.Datum{yes, no, null} {
			want := num(3)
			if second == yes {
				want = num(2)
			}
			if first == yes {
				want = num(1)
			}
			evaluated(t, op(api.ExprCase, lit(first), one, lit(second), two, three), nil, want, api.OK)
		}
	}
	evaluated(t, op(api.ExprCase, lit(yes), one, broken(), broken(), broken()), nil, num(1), api.OK)
	evaluated(t, op(api.ExprCase, lit(no), broken(), lit(yes), two, broken()), nil, num(2), api.OK)
	evaluated(t, op(api.ExprCase, lit(no), broken(), lit(null), broken(), three), nil, num(3), api.OK)
	evaluated(t, op(api.ExprCase, broken(), one, fail(9), two, three), nil, api.Datum{}, api.ErrDatumZero)
	evaluated(t, op(api.ExprCase, lit(null), one, fail(9), two, broken()), nil, api.Datum{}, 9)
	evaluated(t, op(api.ExprCase, lit(yes), col(0), lit(text("a"))), of(api.Datum{Kind: 7, Int: 7}), api.Datum{Kind: 7, Int: 7}, api.OK)
	evaluated(t, op(api.ExprCase, lit(no), lit(yes), col(0)), of(text("\xff")), text("\xff"), api.OK)
}

func TestEvalOfCoalesce(t *testing.T) {
	odd, marked := api.Datum{Kind: 7, Int: 7}, api.Datum{Kind: api.KindNull, Int: 4, Text: "a"}
	evaluated(t, data(api.ExprCoalesce, null, null), nil, null, api.OK)
	evaluated(t, data(api.ExprCoalesce, null, no, yes), nil, no, api.OK)
	evaluated(t, op(api.ExprCoalesce, lit(num(0)), broken()), nil, num(0), api.OK)
	evaluated(t, op(api.ExprCoalesce, lit(null), broken(), lit(num(0))), nil, api.Datum{}, api.ErrDatumZero)
	evaluated(t, op(api.ExprCoalesce, col(0), broken()), of(odd), odd, api.OK)
	evaluated(t, op(api.ExprCoalesce, col(0), broken()), of(api.Datum{}), api.Datum{}, api.OK)
	evaluated(t, op(api.ExprCoalesce, col(0), lit(text("b"))), of(marked), text("b"), api.OK) // null is what has the kind of null
	evaluated(t, op(api.ExprCoalesce, col(0), col(0)), of(marked), null, api.OK)
}

func TestEvalNamesTheFirstError(t *testing.T) {
	zero, over := broken(), data(api.ExprAdd, num(math.MaxInt64), num(1))
	evaluated(t, op(api.ExprAdd, zero, over), nil, api.Datum{}, api.ErrDatumZero)
	evaluated(t, op(api.ExprAdd, over, zero), nil, api.Datum{}, api.ErrDatumOver)
	evaluated(t, op(api.ExprAdd, lit(text("a")), zero), nil, api.Datum{}, api.ErrDatumZero) // the Kids come before the operator
	evaluated(t, op(api.ExprAdd, lit(null), zero), nil, api.Datum{}, api.ErrDatumZero)
	evaluated(t, op(api.ExprEq, over, op(api.ExprAdd, zero, fail(9))), nil, api.Datum{}, api.ErrDatumOver)
	evaluated(t, op(api.ExprEq, lit(num(1)), op(api.ExprAdd, zero, fail(9))), nil, api.Datum{}, api.ErrDatumZero)
	evaluated(t, op(api.ExprNot, op(api.ExprLength, op(api.ExprConcat, lit(num(1)), fail(9)))), nil, api.Datum{}, 9)
	evaluated(t, data(api.ExprConcat, text(strings.Repeat("a", 999)), text("bc")), nil, api.Datum{}, api.ErrDatumLong)
	evaluated(t, data(api.ExprEq, num(1), text("a")), nil, api.Datum{}, api.ErrExprType)
}

func TestEvalNamesFormFirst(t *testing.T) {
	for _, e := range []api.Expr{
		{}, col(1), col(-1), op(api.ExprOr, lit(yes), col(1)), op(api.ExprCase, lit(yes), lit(yes), col(1)), op(api.ExprCoalesce, lit(yes), col(9999)),
		op(api.ExprAdd, broken(), col(1)), op(api.ExprAdd, fail(9), op(99)), op(api.ExprOr, lit(yes), op(api.ExprNot)), fail(0), lit(api.Datum{}),
		nested(api.ExprCoalesce, 60, lit(yes)), op(api.ExprCoalesce, lit(yes), nested(api.ExprCoalesce, 59, lit(yes))), ofParts(4001),
	} {
		evaluated(t, e, of(yes, no)[:1], api.Datum{}, api.ErrExprForm)
	}
	evaluated(t, col(0), nil, api.Datum{}, api.ErrExprForm)
	evaluated(t, col(10000), slices.Repeat(of(yes), 10001), api.Datum{}, api.ErrExprForm)
}

func TestEvalWithinTheLimits(t *testing.T) {
	evaluated(t, col(9999), append(slices.Repeat(of(yes), 9999), no), no, api.OK)
	evaluated(t, nested(api.ExprNot, 59, lit(yes)), nil, no, api.OK)
	evaluated(t, ofParts(4000), nil, null, api.OK)
	evaluated(t, api.Expr{Op: api.ExprLit, Lit: yes, Kids: []api.Expr{}}, of(), yes, api.OK)
}

func sharesText(a, b string) bool { return unsafe.StringData(a) == unsafe.StringData(b) }

func TestAnswersAreNewMemory(t *testing.T) {
	given := strings.Repeat("a", 20)
	for _, e := range []api.Expr{col(0), lit(text(given)), op(api.ExprCoalesce, col(0)), op(api.ExprConcat, col(0), lit(text("")))} {
		d, err := expr.Eval(e, of(text(given)))
		if err != api.OK || d != text(given) || sharesText(d.Text, given) {
			t.Error(expr.Print(e), d, err)
		}
	}
	turned, err := expr.Turn(op(api.ExprNot, lit(text(given))), nil)
	if err != api.OK || sharesText(turned.Kids[0].Lit.Text, given) {
		t.Error(turned, err)
	}
}
