package expr

import (
	"penstock/api"
	"penstock/datum"
)

// The operators that need not evaluate all of their Kids.

func (over *evaluation) and(e *api.Expr) (api.Datum, error) { return over.until(false, e, datum.And) }

func (over *evaluation) or(e *api.Expr) (api.Datum, error) { return over.until(true, e, datum.Or) }

// until is f of the two Kids, unless the first one is end already: then the second one is not evaluated.
func (over *evaluation) until(end bool, e *api.Expr, f func(a, b api.Datum) (api.Datum, api.Errno)) (api.Datum, error) {
	a, err := over.truth(&e.Kids[0])
	if err != nil || isBool(a, end) {
		return a, err
	}
	b, err := over.truth(&e.Kids[1])
	if err != nil {
		return api.Datum{}, err
	}
	return told(f(a, b))
}

func (over *evaluation) choose(e *api.Expr) (api.Datum, error) {
	last := len(e.Kids) - 1
	for i := 0; i < last; i += 2 {
		d, err := over.truth(&e.Kids[i])
		if err != nil {
			return api.Datum{}, err
		}
		if isBool(d, true) {
			return over.value(&e.Kids[i+1])
		}
	}
	return over.value(&e.Kids[last])
}

func (over *evaluation) coalesce(e *api.Expr) (api.Datum, error) {
	for i := range e.Kids {
		d, err := over.value(&e.Kids[i])
		if err != nil || d.Kind != api.KindNull {
			return d, err
		}
	}
	return api.Datum{Kind: api.KindNull}, nil
}

// truth is the value of e, which must be a boolean or null.
func (over *evaluation) truth(e *api.Expr) (api.Datum, error) {
	d, err := over.value(e)
	if err != nil {
		return api.Datum{}, err
	}
	if datum.Check(d) != api.OK || d.Kind != api.KindBool && d.Kind != api.KindNull {
		return api.Datum{}, failure{api.ErrExprType}
	}
	return d, nil
}

func isBool(d api.Datum, b bool) bool { return d.Kind == api.KindBool && d.Bool == b }
