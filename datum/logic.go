package datum

import "penstock/api"

// Compare is a comparison, by its operator (api.ExprEq to api.ExprGe).
func Compare(op uint8, a, b api.Datum) (api.Datum, api.Errno) {
	if op < api.ExprEq || op > api.ExprGe {
		return api.Datum{}, api.ErrDatumForm
	}
	k := a.Kind
	if isNull(a) {
		k = b.Kind
	}
	return strict(k, a, b, func(a, b api.Datum) (api.Datum, api.Errno) {
		return boolean(holds(op, Cmp(a, b))), api.OK
	})
}

// holds says whether two data of which Cmp says c are as op asks.
func holds(op uint8, c int) bool {
	switch op {
	case api.ExprEq:
		return c == 0
	case api.ExprNe:
		return c != 0
	case api.ExprLt:
		return c < 0
	case api.ExprLe:
		return c <= 0
	case api.ExprGt:
		return c > 0
	}
	return c >= 0
}

func Not(a api.Datum) (api.Datum, api.Errno) {
	return strict(api.KindBool, a, a, func(a, _ api.Datum) (api.Datum, api.Errno) {
		return boolean(!a.Bool), api.OK
	})
}

func And(a, b api.Datum) (api.Datum, api.Errno) { return decide(a, b, false) }

func Or(a, b api.Datum) (api.Datum, api.Errno) { return decide(a, b, true) }

// decide is And or Or, by the boolean that decides alone, whatever the other argument is (even null).
func decide(a, b api.Datum, alone bool) (api.Datum, api.Errno) {
	if !fits(a, api.KindBool) || !fits(b, api.KindBool) {
		return api.Datum{}, api.ErrDatumForm
	}
	if a == boolean(alone) || b == boolean(alone) {
		return boolean(alone), api.OK
	}
	if isNull(a) || isNull(b) {
		return null(), api.OK
	}
	return boolean(!alone), api.OK
}
