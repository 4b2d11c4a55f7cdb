package expr

import (
	"penstock/api"
	"penstock/datum"
)

const (
	maxParts  = 4000
	maxColumn = 9999
	maxFail   = 65535
)

// Check says whether e may be.
func Check(e api.Expr) api.Errno {
	if !valid(&e, maxColumn+1) {
		return api.ErrExprForm
	}
	return api.OK
}

// valid says whether e may be, over so many columns.
func valid(e *api.Expr, columns int) bool {
	count := 0
	for level, part := range parts(e) {
		count++
		if count > maxParts || level > api.MaxDeep || !formed(part) {
			return false
		}
		if part.Op == api.ExprCol && part.Col >= columns {
			return false
		}
	}
	return true
}

// formed says whether e has what its operator asks for, whatever its Kids are.
func formed(e *api.Expr) bool {
	return takes(e.Op, len(e.Kids)) && columnFits(e) && literalFits(e)
}

// takes says whether op is an operator, of so many Kids.
func takes(op uint8, kids int) bool {
	switch op {
	case api.ExprCol, api.ExprLit, api.ExprFail:
		return kids == 0
	case api.ExprNeg, api.ExprLength, api.ExprNot, api.ExprIsNull:
		return kids == 1
	case api.ExprCase:
		return kids >= 3 && kids%2 == 1
	case api.ExprCoalesce:
		return kids >= 1
	}
	return api.ExprAdd <= op && op <= api.ExprOr && kids == 2
}

func columnFits(e *api.Expr) bool {
	if e.Op == api.ExprCol {
		return isColumn(e.Col)
	}
	return e.Col == 0
}

func isColumn(n int) bool { return 0 <= n && n <= maxColumn }

func literalFits(e *api.Expr) bool {
	switch e.Op {
	case api.ExprLit:
		return datum.Check(e.Lit) == api.OK
	case api.ExprFail:
		return datum.Check(e.Lit) == api.OK && e.Lit.Kind == api.KindInt && 1 <= e.Lit.Int && e.Lit.Int <= maxFail
	}
	return e.Lit == api.Datum{}
}
