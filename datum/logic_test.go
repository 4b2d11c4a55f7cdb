package datum_test

import (
	"testing"

	"penstock/api"
	"penstock/datum"
)

func TestKleenesLogic(t *testing.T) {
	for _, x := range []struct{ a, b, and, or api.Datum }{
		{no, no, no, no}, {no, null, no, null}, {no, yes, no, yes},
		{null, no, no, null}, {null, null, null, null}, {null, yes, null, yes},
		{yes, no, no, yes}, {yes, null, null, yes}, {yes, yes, yes, yes},
	} {
		d, e := datum.And(x.a, x.b)
		answered(t, "And", d, e, x.and, api.OK)
		d, e = datum.Or(x.a, x.b)
		answered(t, "Or", d, e, x.or, api.OK)
	}
	for a, want := range map[api.Datum]api.Datum{no: yes, null: null, yes: no} {
		d, e := datum.Not(a)
		answered(t, "Not", d, e, want, api.OK)
	}
}

// By De Morgan, Or is Not of And of the Nots.
func TestLogicTurned(t *testing.T) {
	for _, a := range []api.Datum{no, null, yes} {
		for _, b := range []api.Datum{no, null, yes} {
			x, _ := datum.Not(a)
			y, _ := datum.Not(b)
			z, _ := datum.And(x, y)
			want, _ := datum.Not(z)
			d, e := datum.Or(a, b)
			answered(t, "Or", d, e, want, api.OK)
		}
	}
}

// What decides alone does not hide a wrong argument.
func TestLogicOfWrongArguments(t *testing.T) {
	for _, d := range []api.Datum{num(0), num(1), text(""), text("true"), {}, {Kind: api.KindBool, Int: 1}} {
		for _, f := range []binary{datum.And, datum.Or} {
			for _, b := range []api.Datum{no, null, yes} {
				got, e := f(d, b)
				answered(t, "logic", got, e, api.Datum{}, api.ErrDatumForm)
				got, e = f(b, d)
				answered(t, "logic", got, e, api.Datum{}, api.ErrDatumForm)
			}
		}
	}
}

func TestCompareIsAsCmp(t *testing.T) {
	for _, a := range ascending() {
		for _, b := range ascending() {
			if a.Kind != b.Kind || a == null {
				continue
			}
			c := datum.Cmp(a, b)
			for op, want := range map[uint8]bool{
				api.ExprEq: c == 0, api.ExprNe: c != 0, api.ExprLt: c < 0,
				api.ExprLe: c <= 0, api.ExprGt: c > 0, api.ExprGe: c >= 0,
			} {
				d, e := datum.Compare(op, a, b)
				answered(t, "Compare", d, e, truth(want), api.OK)
			}
		}
	}
	d, e := datum.Compare(api.ExprLt, text("a"), text("ab"))
	answered(t, "Compare", d, e, yes, api.OK)
}

func TestCompareOfTwoKinds(t *testing.T) {
	for op := api.ExprEq; op <= api.ExprGe; op++ {
		for _, a := range ascending() {
			for _, b := range ascending() {
				if a.Kind != b.Kind && a != null && b != null {
					d, e := datum.Compare(op, a, b)
					answered(t, "Compare", d, e, api.Datum{}, api.ErrDatumForm)
				}
			}
		}
	}
}

func TestCompareByAnotherOperator(t *testing.T) {
	for op := range 256 {
		if op >= int(api.ExprEq) && op <= int(api.ExprGe) {
			continue
		}
		for _, x := range [][2]api.Datum{{num(1), num(1)}, {null, null}, {null, text("a")}, {num(1), null}, {{}, {}}} {
			d, e := datum.Compare(uint8(op), x[0], x[1])
			answered(t, "Compare", d, e, api.Datum{}, api.ErrDatumForm)
		}
	}
}
