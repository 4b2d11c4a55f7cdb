package expr_test

import (
	"slices"
	"strconv"
	"strings"
	"testing"

	"penstock/api"
	"penstock/datum"
	"penstock/expr"
)

func TestPrint(t *testing.T) {
	sum := op(api.ExprAdd, col(0), lit(num(-1)))
	for _, x := range []struct {
		e    api.Expr
		want string
	}{
		{op(api.ExprNot, op(api.ExprEq, col(0), lit(text("a")))), "not (#0 = 'a')"},
		{col(9999), "#9999"},
		{lit(null), "null"},
		{lit(yes), "true"},
		{lit(num(-5)), "-5"},
		{lit(text("it's\n")), `'it''s\n'`},
		{fail(65535), "fail 65535"},
		{op(api.ExprNeg, col(1)), "-#1"},
		{op(api.ExprNeg, lit(num(-5))), "--5"},
		{op(api.ExprNeg, sum), "-(#0 + -1)"},
		{op(api.ExprNeg, op(api.ExprNeg, col(0))), "-(-#0)"},
		{op(api.ExprNeg, fail(1)), "-(fail 1)"},
		{op(api.ExprLength, col(0)), "length(#0)"},
		{op(api.ExprLength, op(api.ExprConcat, col(0), lit(text("")))), "length(#0 || '')"},
		{op(api.ExprLength, op(api.ExprLength, op(api.ExprNot, sum))), "length(length(not (#0 + -1)))"},
		{op(api.ExprNot, lit(null)), "not null"},
		{op(api.ExprNot, op(api.ExprLength, col(0))), "not (length(#0))"},
		{op(api.ExprIsNull, col(2)), "#2 is null"},
		{op(api.ExprIsNull, sum), "(#0 + -1) is null"},
		{op(api.ExprSub, sum, op(api.ExprIsNull, fail(9))), "(#0 + -1) - ((fail 9) is null)"},
		{op(api.ExprMul, op(api.ExprLength, col(0)), op(api.ExprCoalesce, col(1))), "(length(#0)) * (coalesce(#1))"},
		{op(api.ExprCase, col(0), col(1), col(2)), "case when #0 then #1 else #2 end"},
		{op(api.ExprCase, op(api.ExprNot, col(0)), sum, lit(null), fail(1), op(api.ExprCase, lit(no), lit(no), lit(no))),
			"case when (not #0) then (#0 + -1) when null then (fail 1) else (case when false then false else false end) end"},
		{op(api.ExprCoalesce, lit(null)), "coalesce(null)"},
		{op(api.ExprCoalesce, sum, col(1), fail(3), op(api.ExprCoalesce, col(0), lit(text(", ")))), "coalesce(#0 + -1, #1, fail 3, coalesce(#0, ', '))"},
		{ofParts(6), "coalesce(null, null, null, not null)"},
	} {
		if got := expr.Print(x.e); got != x.want {
			t.Errorf("Print(%v) = %q, want %q", x.e, got, x.want)
		}
	}
	signs := strings.Fields("+ - * / % || = <> < <= > >= and or")
	for o := range uint8(24) {
		if !slices.Equal(operators()[o], []int{2}) {
			continue
		}
		if got, want := expr.Print(op(o, col(0), op(o, lit(no), col(1)))), "#0 "+signs[0]+" (false "+signs[0]+" #1)"; got != want {
			t.Errorf("operator %d: %q, want %q", o, got, want)
		}
		signs = signs[1:]
	}
	if len(signs) > 0 {
		t.Error(signs)
	}
}

func TestPrintOfWhatMayNotBe(t *testing.T) {
	for _, e := range []api.Expr{
		{}, op(99), col(-1), col(10000), fail(0), lit(api.Datum{}), lit(text("\xff")), op(api.ExprNot), op(api.ExprNot, op(api.ExprNeg, col(-1))),
		op(api.ExprCase), op(api.ExprCase, col(0), col(0)), op(api.ExprCoalesce), nested(api.ExprNot, 60, lit(yes)), ofParts(4001), op(api.ExprAdd, col(0), col(0), col(0)),
		{Op: api.ExprNot, Col: 1, Kids: lits(yes)},
	} {
		if got := expr.Print(e); got != "" {
			t.Errorf("Print(%v) = %q", e, got)
		}
	}
	if got := expr.Print(nested(api.ExprNot, 59, lit(yes))); got != strings.Repeat("not (", 58)+"not true"+strings.Repeat(")", 58) {
		t.Error(got)
	}
	if got := expr.Print(ofParts(4000)); got != "coalesce("+strings.Repeat("null, ", 3997)+"not null)" {
		t.Error(got)
	}
}

// reading reads text forms back, as the chapter describes them.
type reading struct {
	rest string
	ok   bool
}

func read(s string) (api.Expr, bool) {
	in := reading{s, true}
	e := in.whole()
	return e, in.ok && in.rest == ""
}

func (in *reading) took(words string) bool {
	rest, found := strings.CutPrefix(in.rest, words)
	if found {
		in.rest = rest
	}
	return found
}

func (in *reading) must(words string) {
	in.ok = in.took(words) && in.ok
}

// cut takes the first n bytes.
func (in *reading) cut(n int) string {
	s := in.rest[:n]
	in.rest = in.rest[n:]
	return s
}

func digits(s string) int { return len(s) - len(strings.TrimLeft(s, "0123456789")) }

// atom reads a column or a literal, if one stands here.
func (in *reading) atom() (api.Expr, bool) {
	if in.took("#") {
		n, err := strconv.Atoi(in.cut(digits(in.rest)))
		in.ok = in.ok && err == nil
		return col(n), true
	}
	size := digits(in.rest)
	if strings.HasPrefix(in.rest, "-") && digits(in.rest[1:]) > 0 && !strings.HasPrefix(in.rest, "-0") {
		size = 1 + digits(in.rest[1:])
	}
	for _, word := range []string{"null", "true", "false"} {
		if strings.HasPrefix(in.rest, word) {
			size = len(word)
		}
	}
	for strings.HasPrefix(in.rest[size:], "'") { // a text's doubled quotes make it several texts, one behind the other
		size += strings.Index(in.rest[size+1:], "'") + 2
	}
	if size == 0 {
		return api.Expr{}, false
	}
	d, e := datum.Parse(in.cut(size))
	in.ok = in.ok && e == api.OK
	return lit(d), true
}

func (in *reading) kid() api.Expr {
	if in.took("(") {
		e := in.whole()
		in.must(")")
		return e
	}
	e, found := in.atom()
	in.ok = in.ok && found
	return e
}

func (in *reading) list() []api.Expr {
	out := []api.Expr{in.whole()}
	for in.ok && in.took(", ") {
		out = append(out, in.whole())
	}
	in.must(")")
	return out
}

func (in *reading) whole() api.Expr {
	switch {
	case !in.ok:
		return api.Expr{}
	case in.took("length("):
		return op(api.ExprLength, in.list()...)
	case in.took("coalesce("):
		return op(api.ExprCoalesce, in.list()...)
	case in.took("not "):
		return op(api.ExprNot, in.kid())
	case in.took("case"):
		return in.choice()
	case in.took("fail "):
		d, _ := in.atom()
		return api.Expr{Op: api.ExprFail, Lit: d.Lit}
	}
	if !strings.HasPrefix(in.rest, "(") {
		e, found := in.atom()
		if !found {
			in.must("-")
			return op(api.ExprNeg, in.kid())
		}
		return in.behind(e)
	}
	return in.behind(in.kid())
}

// behind reads what may stand behind a Kid.
func (in *reading) behind(e api.Expr) api.Expr {
	if in.took(" is null") {
		return op(api.ExprIsNull, e)
	}
	signs := strings.Fields(". . . . + - * / % || . = <> < <= > >= . and or")
	for o, sign := range signs {
		if in.took(" " + sign + " ") {
			return op(uint8(o), e, in.kid())
		}
	}
	return e
}

func (in *reading) choice() api.Expr {
	var kids []api.Expr
	for in.ok && in.took(" when ") {
		kids = append(kids, in.kid())
		in.must(" then ")
		kids = append(kids, in.kid())
	}
	in.must(" else ")
	kids = append(kids, in.kid())
	in.must(" end")
	return op(api.ExprCase, kids...)
}

// asRead is e as its text form is read: `-` and a number is that number.
func asRead(e api.Expr) api.Expr {
	if e.Op == api.ExprNeg && e.Kids[0].Lit.Kind == api.KindInt && e.Kids[0].Op == api.ExprLit && e.Kids[0].Lit.Int > 0 {
		return lit(num(-e.Kids[0].Lit.Int))
	}
	out := e
	out.Kids = nil
	for _, kid := range e.Kids {
		out.Kids = append(out.Kids, asRead(kid))
	}
	return out
}

// What is printed says what was meant: it is read back.
func TestTextFormsAreReadBack(t *testing.T) {
	for _, e := range some() {
		s := expr.Print(e)
		got, ok := read(s)
		if !ok || !same(got, asRead(e)) {
			t.Fatalf("%q is read as %v, %v, not as %v", s, got, ok, e)
		}
	}
}
