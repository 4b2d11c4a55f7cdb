package expr

import (
	"strconv"
	"strings"

	"penstock/api"
	"penstock/datum"
)

// signs is what stands between two Kids.
var signs = [...]string{
	api.ExprAdd: "+", api.ExprSub: "-", api.ExprMul: "*", api.ExprDiv: "/", api.ExprMod: "%", api.ExprConcat: "||",
	api.ExprEq: "=", api.ExprNe: "<>", api.ExprLt: "<", api.ExprLe: "<=", api.ExprGt: ">", api.ExprGe: ">=",
	api.ExprAnd: "and", api.ExprOr: "or",
}

// Print is e as it is written.
func Print(e api.Expr) string {
	if Check(e) != api.OK {
		return ""
	}
	var out printer
	out.whole(&e)
	return out.String()
}

// printer collects a text form.
type printer struct{ strings.Builder }

// whole writes e without parentheses around it.
func (out *printer) whole(e *api.Expr) {
	switch e.Op {
	case api.ExprCol:
		out.WriteString("#" + strconv.Itoa(e.Col))
	case api.ExprLit:
		out.WriteString(datum.Print(e.Lit))
	case api.ExprFail:
		out.WriteString("fail " + datum.Print(e.Lit))
	case api.ExprNeg:
		out.behind("-", &e.Kids[0])
	case api.ExprNot:
		out.behind("not ", &e.Kids[0])
	case api.ExprIsNull:
		out.kid(&e.Kids[0])
		out.WriteString(" is null")
	case api.ExprLength:
		out.call("length", e.Kids)
	case api.ExprCoalesce:
		out.call("coalesce", e.Kids)
	case api.ExprCase:
		out.choice(e.Kids)
	default:
		out.kid(&e.Kids[0])
		out.behind(" "+signs[e.Op]+" ", &e.Kids[1])
	}
}

// kid writes a Kid, in parentheses unless it is a column or a literal.
func (out *printer) kid(e *api.Expr) {
	if e.Op == api.ExprCol || e.Op == api.ExprLit {
		out.whole(e)
		return
	}
	out.WriteByte('(')
	out.whole(e)
	out.WriteByte(')')
}

// behind writes some words, and a Kid behind them.
func (out *printer) behind(words string, e *api.Expr) {
	out.WriteString(words)
	out.kid(e)
}

// call writes what has parentheses of its own.
func (out *printer) call(name string, kids []api.Expr) {
	between := name + "("
	for i := range kids {
		out.WriteString(between)
		out.whole(&kids[i])
		between = ", "
	}
	out.WriteByte(')')
}

func (out *printer) choice(kids []api.Expr) {
	last := len(kids) - 1
	out.WriteString("case")
	for i := 0; i < last; i += 2 {
		out.behind(" when ", &kids[i])
		out.behind(" then ", &kids[i+1])
	}
	out.behind(" else ", &kids[last])
	out.WriteString(" end")
}
