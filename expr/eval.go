package expr

import (
	"errors"
	"strings"

	"penstock/api"
	"penstock/datum"
)

// failure is an error on its way up through the parts.
type failure struct{ api.Errno }

// Eval is what e comes to, of a row.
func Eval(e api.Expr, r api.Row) (api.Datum, api.Errno) {
	if !valid(&e, len(r)) {
		return api.Datum{}, api.ErrExprForm
	}
	over := evaluation{row: r, effects: effects()}
	d, err := over.value(&e)
	var f failure
	if errors.As(err, &f) {
		return api.Datum{}, f.Errno
	}
	d.Text = strings.Clone(d.Text) // what is answered shares no memory with an argument
	return d, api.OK
}

// evaluation is the row that expressions are evaluated for, and what the operators do.
type evaluation struct {
	row     api.Row
	effects map[uint8]effect
}

// effect evaluates an expression of one operator; those of its Kids that it needs, it evaluates itself.
type effect func(over *evaluation, e *api.Expr) (api.Datum, error)

func effects() map[uint8]effect {
	return map[uint8]effect{
		api.ExprCol:      (*evaluation).column,
		api.ExprLit:      (*evaluation).literal,
		api.ExprNeg:      (*evaluation).neg,
		api.ExprAdd:      (*evaluation).add,
		api.ExprSub:      (*evaluation).sub,
		api.ExprMul:      (*evaluation).mul,
		api.ExprDiv:      (*evaluation).div,
		api.ExprMod:      (*evaluation).mod,
		api.ExprConcat:   (*evaluation).concat,
		api.ExprLength:   (*evaluation).length,
		api.ExprEq:       (*evaluation).compare,
		api.ExprNe:       (*evaluation).compare,
		api.ExprLt:       (*evaluation).compare,
		api.ExprLe:       (*evaluation).compare,
		api.ExprGt:       (*evaluation).compare,
		api.ExprGe:       (*evaluation).compare,
		api.ExprNot:      (*evaluation).not,
		api.ExprAnd:      (*evaluation).and,
		api.ExprOr:       (*evaluation).or,
		api.ExprIsNull:   (*evaluation).isNull,
		api.ExprCase:     (*evaluation).choose,
		api.ExprCoalesce: (*evaluation).coalesce,
		api.ExprFail:     (*evaluation).fail,
	}
}

func (over *evaluation) value(e *api.Expr) (api.Datum, error) { return over.effects[e.Op](over, e) }

func (over *evaluation) column(e *api.Expr) (api.Datum, error) { return over.row[e.Col], nil }

func (over *evaluation) literal(e *api.Expr) (api.Datum, error) { return e.Lit, nil }

func (over *evaluation) fail(e *api.Expr) (api.Datum, error) {
	return api.Datum{}, failure{api.Errno(e.Lit.Int)}
}

func (over *evaluation) neg(e *api.Expr) (api.Datum, error) { return over.one(e, datum.Neg) }

func (over *evaluation) add(e *api.Expr) (api.Datum, error) { return over.two(e, datum.Add) }

func (over *evaluation) sub(e *api.Expr) (api.Datum, error) { return over.two(e, datum.Sub) }

func (over *evaluation) mul(e *api.Expr) (api.Datum, error) { return over.two(e, datum.Mul) }

func (over *evaluation) div(e *api.Expr) (api.Datum, error) { return over.two(e, datum.Div) }

func (over *evaluation) mod(e *api.Expr) (api.Datum, error) { return over.two(e, datum.Mod) }

func (over *evaluation) concat(e *api.Expr) (api.Datum, error) { return over.two(e, datum.Concat) }

func (over *evaluation) length(e *api.Expr) (api.Datum, error) { return over.one(e, datum.Length) }

func (over *evaluation) not(e *api.Expr) (api.Datum, error) { return over.one(e, datum.Not) }

func (over *evaluation) compare(e *api.Expr) (api.Datum, error) {
	return over.two(e, func(a, b api.Datum) (api.Datum, api.Errno) { return datum.Compare(e.Op, a, b) })
}

func (over *evaluation) isNull(e *api.Expr) (api.Datum, error) {
	d, err := over.value(&e.Kids[0])
	if err != nil {
		return api.Datum{}, err
	}
	return api.Datum{Kind: api.KindBool, Bool: d.Kind == api.KindNull}, nil
}

// one is f of the one Kid.
func (over *evaluation) one(e *api.Expr, f func(a api.Datum) (api.Datum, api.Errno)) (api.Datum, error) {
	a, err := over.value(&e.Kids[0])
	if err != nil {
		return api.Datum{}, err
	}
	return told(f(a))
}

// two is f of the two Kids.
func (over *evaluation) two(e *api.Expr, f func(a, b api.Datum) (api.Datum, api.Errno)) (api.Datum, error) {
	a, err := over.value(&e.Kids[0])
	if err != nil {
		return api.Datum{}, err
	}
	b, err := over.value(&e.Kids[1])
	if err != nil {
		return api.Datum{}, err
	}
	return told(f(a, b))
}

// told is what an operation of datum answered, whose ErrDatumForm says here that an operand has a wrong type.
func told(d api.Datum, e api.Errno) (api.Datum, error) {
	switch e {
	case api.OK:
		return d, nil
	case api.ErrDatumForm:
		return api.Datum{}, failure{api.ErrExprType}
	}
	return api.Datum{}, failure{e}
}
