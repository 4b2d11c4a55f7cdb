package reduce

import (
	"slices"
	"strings"

	"penstock/api"
	"penstock/expr"
)

// all is the Limit of a RelTop that leaves out none.
const all = -1

// formed says whether spec may be.
func formed(spec api.Rel) bool {
	switch spec.Kind {
	case api.RelReduce, api.RelThreshold:
	case api.RelTop:
		if spec.Limit < all || spec.Offset < 0 {
			return false
		}
	default:
		return false
	}
	return len(spec.Cols) <= api.MaxColumns && !slices.ContainsFunc(spec.Cols, isNoColumn) &&
		len(spec.Order) <= api.MaxColumns && !slices.ContainsFunc(spec.Order, func(s api.Sort) bool { return isNoColumn(s.Col) }) &&
		len(spec.Aggs) <= api.MaxColumns && !slices.ContainsFunc(spec.Aggs, isNoAggregation)
}

func isNoColumn(c int) bool { return c < 0 || c >= api.MaxColumns }

func isNoAggregation(a api.Agg) bool {
	_, found := aggregations()[a.Func]
	return !found
}

// kept is what of spec is asked for later, in memory of its own.
func kept(spec api.Rel) api.Rel {
	out := api.Rel{Kind: spec.Kind, Cols: slices.Concat(spec.Cols), Order: slices.Concat(spec.Order), Limit: spec.Limit, Offset: spec.Offset}
	for _, a := range spec.Aggs {
		if expr.Check(a.Expr) != api.OK {
			a.Expr = api.Expr{} // it fails for each row just as well, and need not be kept
		}
		a.Expr = freshExpr(a.Expr)
		out.Aggs = append(out.Aggs, a)
	}
	return out
}

func freshExpr(e api.Expr) api.Expr {
	var kids []api.Expr
	for _, k := range e.Kids {
		kids = append(kids, freshExpr(k))
	}
	e.Kids = kids
	e.Lit.Text = strings.Clone(e.Lit.Text)
	return e
}
