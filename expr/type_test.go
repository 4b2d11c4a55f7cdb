package expr_test

import (
	"slices"
	"testing"

	"penstock/api"
	"penstock/expr"
)

// sample is a literal of each type, by its kind.
func sample() map[api.Kind]api.Expr {
	return map[api.Kind]api.Expr{api.KindNull: lit(null), api.KindBool: lit(yes), api.KindInt: lit(num(1)), api.KindText: lit(text("a"))}
}

// kinds is all of them; the columns of some are of these types, too.
func kinds() []api.Kind {
	return []api.Kind{api.KindNull, api.KindBool, api.KindInt, api.KindText}
}

func typed(t *testing.T, e api.Expr, cols []api.Kind, want api.Kind, wantErr api.Errno) {
	t.Helper()
	if k, err := expr.Type(e, cols); k != want || err != wantErr {
		t.Errorf("Type(%s, %v) = %v, %v, want %v, %v", expr.Print(e), cols, k, err, want, wantErr)
	}
}

// signature is what an operator asks of all of its operands (KindNull: any), and what it makes.
type signature struct {
	operand, result api.Kind
}

func signatures() map[uint8]signature {
	null, boolean, integer, text := api.KindNull, api.KindBool, api.KindInt, api.KindText
	return map[uint8]signature{
		api.ExprNeg: {integer, integer}, api.ExprAdd: {integer, integer}, api.ExprSub: {integer, integer}, api.ExprMul: {integer, integer},
		api.ExprDiv: {integer, integer}, api.ExprMod: {integer, integer}, api.ExprConcat: {text, text}, api.ExprLength: {text, integer},
		api.ExprNot: {boolean, boolean}, api.ExprAnd: {boolean, boolean}, api.ExprOr: {boolean, boolean}, api.ExprIsNull: {null, boolean},
	}
}

func TestTypeOfOperators(t *testing.T) {
	for o, s := range signatures() {
		for _, a := range kinds() {
			for _, b := range kinds() {
				operands := []api.Kind{a, b}[:operators()[o][0]]
				var es []api.Expr
				want, wantErr := s.result, api.OK
				for _, k := range operands {
					es = append(es, sample()[k])
					if s.operand != api.KindNull && k != s.operand && k != api.KindNull {
						want, wantErr = 0, api.ErrExprType
					}
				}
				typed(t, op(o, es...), nil, want, wantErr)
			}
		}
	}
}

func TestTypeOfComparisons(t *testing.T) {
	for o := api.ExprEq; o <= api.ExprGe; o++ {
		for _, a := range kinds() {
			for _, b := range kinds() {
				want, wantErr := api.KindBool, api.OK
				if a != b && a != api.KindNull && b != api.KindNull {
					want, wantErr = 0, api.ErrExprType
				}
				typed(t, op(o, sample()[a], sample()[b]), nil, want, wantErr)
			}
		}
	}
}

// one is the common type of values, or 0 if they have none.
func one(ks ...api.Kind) api.Kind {
	ks = slices.DeleteFunc(slices.Clone(ks), func(k api.Kind) bool { return k == api.KindNull })
	slices.Sort(ks)
	switch ks = slices.Compact(ks); len(ks) {
	case 0:
		return api.KindNull
	case 1:
		return ks[0]
	}
	return 0
}

func TestTypeOfChoices(t *testing.T) {
	for _, a := range kinds() {
		for _, b := range kinds() {
			for _, c := range kinds() {
				want, wantErr := one(a, b, c), api.OK
				if want == 0 {
					wantErr = api.ErrExprType
				}
				x, y, z := sample()[a], sample()[b], sample()[c]
				typed(t, op(api.ExprCoalesce, x, y, z), nil, want, wantErr)
				typed(t, op(api.ExprCase, lit(yes), x, lit(null), y, z), nil, want, wantErr)
				if a == api.KindNull || a == api.KindBool {
					want, wantErr = one(b, c), api.OK
				} else {
					want, wantErr = 0, api.ErrExprType
				}
				if want == 0 {
					wantErr = api.ErrExprType
				}
				typed(t, op(api.ExprCase, x, y, z), nil, want, wantErr)
				typed(t, op(api.ExprCase, lit(null), lit(null), x, y, z), nil, want, wantErr)
			}
		}
		typed(t, op(api.ExprCoalesce, sample()[a]), nil, a, api.OK)
	}
}

func TestTypeOfColumns(t *testing.T) {
	cols := []api.Kind{api.KindNull, api.KindBool, api.KindInt, api.KindText, 0, 5, 255}
	for i, k := range cols {
		want := k
		if i > 3 {
			want = api.KindNull
		}
		typed(t, col(i), cols, want, api.OK)
		typed(t, op(api.ExprCoalesce, col(i)), cols, want, api.OK)
	}
	typed(t, op(api.ExprAdd, col(4), col(2)), cols, api.KindInt, api.OK)
	typed(t, op(api.ExprEq, col(5), col(3)), cols, api.KindBool, api.OK)
	typed(t, op(api.ExprAdd, col(1), col(2)), cols, 0, api.ErrExprType)
	typed(t, col(9999), slices.Repeat([]api.Kind{api.KindText}, 20000), api.KindText, api.OK)
}

func TestTypeExamples(t *testing.T) {
	typed(t, op(api.ExprAdd, col(0), col(1)), []api.Kind{api.KindInt, api.KindText}, 0, api.ErrExprType)
	typed(t, op(api.ExprCase, col(0), lit(null), lit(num(5))), []api.Kind{api.KindBool}, api.KindInt, api.OK)
	typed(t, lit(null), nil, api.KindNull, api.OK)
	typed(t, col(0), nil, 0, api.ErrExprForm)
}

func TestTypeOfFail(t *testing.T) {
	typed(t, fail(11), nil, api.KindNull, api.OK)
	typed(t, op(api.ExprAdd, fail(31), lit(num(1))), nil, api.KindInt, api.OK)
	typed(t, op(api.ExprConcat, fail(30), fail(13)), nil, api.KindText, api.OK)
	typed(t, op(api.ExprCase, fail(1), fail(2), lit(text("a"))), nil, api.KindText, api.OK)
	typed(t, op(api.ExprNot, fail(1)), nil, api.KindBool, api.OK)
}

func TestTypeLooksAtAllParts(t *testing.T) {
	wrong := data(api.ExprAdd, num(1), text("a"))
	for _, e := range []api.Expr{
		op(api.ExprIsNull, wrong),
		op(api.ExprNot, op(api.ExprIsNull, wrong)),
		op(api.ExprOr, lit(yes), op(api.ExprEq, wrong, lit(num(1)))),
		op(api.ExprCase, lit(no), wrong, lit(num(1))),
		op(api.ExprCase, lit(yes), lit(num(1)), wrong),
		op(api.ExprCoalesce, lit(num(1)), wrong),
		op(api.ExprLength, op(api.ExprConcat, lit(text("a")), data(api.ExprLength, yes))),
		nested(api.ExprNot, 58, lit(num(1))),
		op(api.ExprNeg, op(api.ExprIsNull, lit(num(1)))), // a result has its type, whatever the operands are
		op(api.ExprConcat, data(api.ExprLength, null), lit(text("a"))),
		op(api.ExprAdd, data(api.ExprEq, null, null), lit(null)),
		op(api.ExprNot, data(api.ExprNeg, null)),
		op(api.ExprLength, data(api.ExprAnd, null, null)),
	} {
		typed(t, e, nil, 0, api.ErrExprType)
	}
}

func TestTypeNamesFormFirst(t *testing.T) {
	wrong := data(api.ExprAdd, num(1), text("a"))
	for _, e := range []api.Expr{
		op(api.ExprAdd, wrong, col(1)),
		op(api.ExprCoalesce, wrong, op(99)),
		op(api.ExprCoalesce, wrong, nested(api.ExprNot, 59, lit(yes))),
		op(api.ExprCoalesce, wrong, ofParts(3997)),
		op(api.ExprOr, lit(yes), col(1)),
		col(-1),
		{},
	} {
		typed(t, e, []api.Kind{api.KindInt, api.KindInt}[:1], 0, api.ErrExprForm)
	}
	typed(t, col(10000), slices.Repeat([]api.Kind{api.KindInt}, 10001), 0, api.ErrExprForm)
	typed(t, op(api.ExprCoalesce, wrong, ofParts(3996)), nil, 0, api.ErrExprType)
}
