package row_test

import (
	"slices"
	"strings"
	"testing"

	"penstock/api"
	"penstock/row"
)

func TestPrint(t *testing.T) {
	for _, x := range []struct {
		r    api.Row
		want string
	}{
		{nil, "()"},
		{of(num(1), text("x"), null, yes), "(1, 'x', null, true)"},
		{of(no), "(false)"},
		{of(num(-5), text("it's\n, ")), `(-5, 'it''s\n, ')`},
		{of(text("")), "('')"},
	} {
		if s, e := row.Print(x.r); e != api.OK || s != x.want {
			t.Errorf("Print(%v) = %q, %v, want %q", x.r, s, e, x.want)
		}
	}
	for _, x := range refused() {
		if s, e := row.Print(x.r); e != x.e || s != "" {
			t.Errorf("Print(%v) = %q, %v, want %v", x.r, s, e, x.e)
		}
	}
}

func TestParseOfTheTextFormIsTheRow(t *testing.T) {
	for _, r := range append(rows(), of(data()[:32]...), slices.Repeat(of(text("', '")), 32)) {
		s, e := row.Print(r)
		if e != api.OK {
			t.Errorf("Print(%v): %v", r, e)
		}
		if got, e := row.Parse(s); e != api.OK || !same(got, r) {
			t.Errorf("Parse(%q) = %v, %v, want %v", s, got, e, r)
		}
	}
}

func TestParseRefuses(t *testing.T) {
	for _, s := range []string{
		"", "(", ")", ")(", "1", "(1", "1)", " (1)", "(1) ", "(1)\n", "[1]", "((1))", "(1))", "(1)(2)", "( )", "( 1)", "(1 )", "())", "(()",
		"(1,2)", "(1 , 2)", "(1,  2)", "(1, )", "(, 1)", "(, )", "(,)", "(1, 2,)", "(1, 2, )", "(1,\n2)", "(1,\t2)", "(1; 2)", "(1 2)",
		"(nul)", "(NULL)", "(01)", "(-0)", "(+1)", "(9223372036854775808)", "(a)",
		"(')", "('a)", "(a')", "(''')", "('a', ')", "('a' , 'b')", "('a''b)", "('a'b')", `('\q')`, "('\n')", "('\xff')", `('\')`, `('a\', 'b')`,
		"('a', 'b)", "('a, 'b')", "('" + strings.Repeat("a", 1001) + "')",
		"(" + strings.Repeat("1, ", 32) + "1)", "(" + strings.Repeat("'', ", 1<<16) + "1)", strings.Repeat("(", 1<<16) + strings.Repeat(")", 1<<16),
	} {
		if r, e := row.Parse(s); e != api.ErrRowForm || len(r) != 0 {
			t.Errorf("Parse(%q) = %v, %v", s, r, e)
		}
	}
}

// Whatever is parsed is the one row whose text form it is.
func FuzzParse(f *testing.F) {
	for i, r := range rows() {
		if s, _ := row.Print(r); i%50 == 0 {
			f.Add(s)
		}
	}
	f.Add("('a', ')")
	f.Add("(1, )")
	f.Fuzz(func(t *testing.T, s string) {
		r, e := row.Parse(s)
		if e != api.OK {
			if e != api.ErrRowForm || len(r) != 0 {
				t.Errorf("Parse(%q) = %v, %v", s, r, e)
			}
			return
		}
		if again, e := row.Print(r); e != api.OK || again != s {
			t.Errorf("Parse(%q) = %v, of the text form %q, %v", s, r, again, e)
		}
	})
}
