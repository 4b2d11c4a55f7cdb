package expr

import (
	"errors"

	"penstock/api"
)

// Type is of what type e is, over columns of these types.
func Type(e api.Expr, cols []api.Kind) (api.Kind, api.Errno) {
	if !valid(&e, len(cols)) {
		return 0, api.ErrExprForm
	}
	kind, err := typing(cols).of(&e)
	var f failure
	if errors.As(err, &f) {
		return 0, f.Errno
	}
	return kind, api.OK
}

// typing is the types of the columns.
type typing []api.Kind

func (t typing) of(e *api.Expr) (api.Kind, error) {
	kinds, err := t.kids(e)
	if err != nil {
		return 0, err
	}
	switch e.Op {
	case api.ExprCol:
		return t.column(e.Col), nil
	case api.ExprLit:
		return e.Lit.Kind, nil
	case api.ExprFail:
		return api.KindNull, nil
	case api.ExprIsNull:
		return api.KindBool, nil
	case api.ExprConcat:
		return common(api.KindText, kinds)
	case api.ExprLength:
		return instead(api.KindInt, api.KindText, kinds)
	case api.ExprEq, api.ExprNe, api.ExprLt, api.ExprLe, api.ExprGt, api.ExprGe:
		return instead(api.KindBool, api.KindNull, kinds)
	case api.ExprNot, api.ExprAnd, api.ExprOr:
		return common(api.KindBool, kinds)
	case api.ExprCase:
		return ofCase(kinds)
	case api.ExprCoalesce:
		return common(api.KindNull, kinds)
	}
	return common(api.KindInt, kinds) // what is left computes with integers
}

func (t typing) kids(e *api.Expr) ([]api.Kind, error) {
	kinds := make([]api.Kind, len(e.Kids))
	for i := range e.Kids {
		kind, err := t.of(&e.Kids[i])
		if err != nil {
			return nil, err
		}
		kinds[i] = kind
	}
	return kinds, nil
}

func (t typing) column(n int) api.Kind {
	switch t[n] {
	case api.KindBool, api.KindInt, api.KindText:
		return t[n]
	}
	return api.KindNull
}

// common is the one type of values of the type kind and of those of kinds.
func common(kind api.Kind, kinds []api.Kind) (api.Kind, error) {
	for _, k := range kinds {
		if kind == api.KindNull {
			kind = k
		}
		if k != kind && k != api.KindNull {
			return 0, failure{api.ErrExprType}
		}
	}
	return kind, nil
}

// instead is the type of an operator that turns operands, whose common type is that of kind, into another type.
func instead(result, kind api.Kind, kinds []api.Kind) (api.Kind, error) {
	if _, err := common(kind, kinds); err != nil {
		return 0, err
	}
	return result, nil
}

// ofCase is the common type of a case's values.
func ofCase(kinds []api.Kind) (api.Kind, error) {
	last := len(kinds) - 1
	var conditions []api.Kind
	values := []api.Kind{kinds[last]}
	for i := 0; i < last; i += 2 {
		conditions = append(conditions, kinds[i])
		values = append(values, kinds[i+1])
	}
	if _, err := common(api.KindBool, conditions); err != nil {
		return 0, err
	}
	return common(api.KindNull, values)
}
