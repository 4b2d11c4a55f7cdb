package expr_test

import (
	"math/rand/v2"
	"testing"

	"penstock/api"
	"penstock/datum"
	"penstock/expr"
	"penstock/row"
)

// leaves is columns of all types (see kinds), literals, and an error.
func leaves() []api.Expr {
	return append(lits(null, yes, no, num(0), num(1), num(-3), num(1<<62), text(""), text("it's, (\\) "), text("é")),
		col(0), col(1), col(2), col(3), fail(9))
}

// rows is rows of these kinds, or nulls.
func rows() []api.Row {
	return []api.Row{of(null, null, null, null), of(null, yes, num(2), text("a")), of(null, no, num(0), text("")), of(null, yes, num(-1<<63), null)}
}

// some is the leaves, all operators over two of them, and greater expressions, made of those: the same in each run.
func some() []api.Expr {
	out := leaves()
	for o := api.ExprNeg; o <= api.ExprCoalesce; o++ {
		for _, a := range leaves() {
			for _, b := range leaves() {
				switch operators()[o][0] {
				case 1:
					out = append(out, op(o, a))
				case 2:
					out = append(out, op(o, a, b))
				case 3:
					out = append(out, op(o, a, b, a), op(o, col(1), a, b), op(o, b, a, lit(null), b, a))
				}
			}
		}
	}
	draw := rand.New(rand.NewPCG(1, 2))
	for range 10000 {
		out = append(out, drawn(draw, 4))
	}
	return out
}

// drawn is an expression of at most so many levels.
func drawn(draw *rand.Rand, levels int) api.Expr {
	all := leaves()
	if levels == 1 || draw.IntN(5) == 0 {
		return all[draw.IntN(len(all))]
	}
	o := api.ExprNeg + uint8(draw.IntN(int(api.ExprCoalesce-api.ExprNeg)+1))
	counts := operators()[o]
	var kids []api.Expr
	for range counts[draw.IntN(min(3, len(counts)))] {
		kids = append(kids, drawn(draw, levels-1))
	}
	return op(o, kids...)
}

func hasFail(e api.Expr) bool {
	for _, kid := range e.Kids {
		if hasFail(kid) {
			return true
		}
	}
	return e.Op == api.ExprFail
}

// What has a type never comes to ErrExprType, and has that type or is null; if it is safe, it has no error at all.
func TestTypesHold(t *testing.T) {
	seen := map[api.Kind]int{}
	safe := 0
	for _, e := range some() {
		kind, err := expr.Type(e, kinds())
		if err != api.OK || hasFail(e) {
			continue
		}
		seen[kind]++
		if expr.Safe(e) {
			safe++
		}
		for _, r := range rows() {
			d, err := expr.Eval(e, r)
			if err == api.OK && (datum.Check(d) != api.OK || d.Kind != kind && d != null) {
				t.Fatalf("%s has the type %d, and for %v it is %v", expr.Print(e), kind, r, d)
			}
			if err == api.ErrExprType || err == api.ErrExprForm || err != api.OK && expr.Safe(e) {
				t.Fatalf("%s has the type %d, and for %v it returns %v", expr.Print(e), kind, r, err)
			}
		}
	}
	for _, kind := range kinds() {
		if seen[kind] < 10 {
			t.Errorf("only %d expressions of type %d", seen[kind], kind)
		}
	}
	if safe < 100 {
		t.Errorf("only %d expressions are safe", safe)
	}
}

// A turned expression comes to what the expression comes to for the picked row.
func TestTurnAgreesWithPick(t *testing.T) {
	cols := []int{4, 0, 5, 2}
	wide := of(yes, num(77), text("b"), null, null, num(2))
	for _, e := range some() {
		if identity, err := expr.Turn(e, []int{0, 1, 2, 3}); err != api.OK || !same(identity, e) {
			t.Fatalf("%s turned into itself is %s, %v", expr.Print(e), expr.Print(identity), err)
		}
		turned, err := expr.Turn(e, cols)
		picked, _ := row.Pick(wide, cols)
		want, wantErr := expr.Eval(e, picked)
		if got, gotErr := expr.Eval(turned, wide); err != api.OK || got != want || gotErr != wantErr {
			t.Fatalf("%s is %v, %v, and turned into %s %v, %v", expr.Print(e), want, wantErr, expr.Print(turned), got, gotErr)
		}
	}
}

func TestEveryResultIsValidOrAnError(t *testing.T) {
	for _, e := range some() {
		for _, r := range rows() {
			if d, err := expr.Eval(e, r); err == api.OK && datum.Check(d) != api.OK || err != api.OK && d != (api.Datum{}) {
				t.Fatalf("Eval(%s, %v) = %v, %v", expr.Print(e), r, d, err)
			}
		}
		if k, err := expr.Type(e, kinds()); (err == api.OK) != (api.KindNull <= k && k <= api.KindText) || err != api.OK && k != 0 {
			t.Fatalf("Type(%s) = %v, %v", expr.Print(e), k, err)
		}
	}
}
