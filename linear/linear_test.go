package linear_test

import (
	"math"
	"slices"
	"strings"
	"testing"

	"penstock/api"
	"penstock/linear"
	"penstock/row"
)

func num(n int64) api.Datum { return api.Datum{Kind: api.KindInt, Int: n} }

func text(s string) api.Datum { return api.Datum{Kind: api.KindText, Text: s} }

func truth(b bool) api.Datum { return api.Datum{Kind: api.KindBool, Bool: b} }

func null() api.Datum { return api.Datum{Kind: api.KindNull} }

func of(data ...api.Datum) api.Row { return data }

func nums(l ...int64) api.Row {
	var out api.Row
	for _, n := range l {
		out = append(out, num(n))
	}
	return out
}

func at(epoch uint64, loops ...uint32) api.Time { return api.Time{Epoch: epoch, Loops: loops} }

func update(diff int64, t api.Time, r api.Row) api.Update {
	return api.Update{Row: r, Time: t, Diff: diff}
}

func updates(l ...api.Update) []api.Update { return l }

// up is rows of data, each of them at 1, once.
func up(rows ...api.Row) []api.Update {
	var out []api.Update
	for _, r := range rows {
		out = append(out, update(1, at(1), r))
	}
	return out
}

func col(n int) api.Expr { return api.Expr{Op: api.ExprCol, Col: n} }

func lit(d api.Datum) api.Expr { return api.Expr{Op: api.ExprLit, Lit: d} }

func fail(e api.Errno) api.Expr { return api.Expr{Op: api.ExprFail, Lit: num(int64(e))} }

func op(o uint8, kids ...api.Expr) api.Expr { return api.Expr{Op: o, Kids: kids} }

func exprs(l ...api.Expr) []api.Expr { return l }

// nested is an expression of that many levels, which is true or false.
func nested(levels int) api.Expr {
	e := lit(truth(true))
	for range levels - 1 {
		e = op(api.ExprNot, e)
	}
	return e
}

func sameTime(a, b api.Time) bool { return a.Epoch == b.Epoch && slices.Equal(a.Loops, b.Loops) }

func sameUpdates(a, b []api.Update) bool {
	return slices.EqualFunc(a, b, func(x, y api.Update) bool {
		return x.Diff == y.Diff && sameTime(x.Time, y.Time) && slices.Equal(x.Row, y.Row)
	})
}

// expect holds what a call answers, and the errors, against what they should be.
func expect(t *testing.T, what string, got, errs, want, wantErrs []api.Update) {
	t.Helper()
	if !sameUpdates(got, want) {
		t.Errorf("%s returns %v, want %v", what, got, want)
	}
	if !sameUpdates(errs, wantErrs) {
		t.Errorf("%s returns the errors %v, want %v", what, errs, wantErrs)
	}
}

// document is the update of the document's examples.
func document() []api.Update { return updates(update(2, at(3), nums(5, 0))) }

func TestExamplesOfTheDocument(t *testing.T) {
	l := document()
	quotient := op(api.ExprDiv, col(0), col(1))
	got, errs := linear.Map(l, exprs(quotient))
	expect(t, "Map by a quotient", got, errs, nil, updates(update(2, at(3), nums(11))))
	got, errs = linear.Map(l, exprs(op(api.ExprAdd, col(0), lit(num(1))), col(1)))
	expect(t, "Map", got, errs, updates(update(2, at(3), nums(5, 0, 6, 0))), nil)
	got, errs = linear.Filter(l, exprs(op(api.ExprGt, col(0), lit(num(3))), op(api.ExprEq, col(1), lit(num(0)))))
	expect(t, "Filter", got, errs, l, nil)
	expect(t, "Project", linear.Project(l, []int{1, 1, 7}), nil, updates(update(2, at(3), of(num(0), num(0), null()))), nil)
	expect(t, "Negate", linear.Negate(l), nil, updates(update(-2, at(3), nums(5, 0))), nil)
	expect(t, "Move", linear.Move(l, api.Path{Enter: []uint32{0}}), nil, updates(update(2, at(3, 0), nums(5, 0))), nil)
}

func TestMap(t *testing.T) {
	zero, long := op(api.ExprDiv, lit(num(1)), col(0)), op(api.ExprConcat, col(0), col(0))
	marked := api.Datum{Kind: api.KindInt, Int: 1, Text: "x"}
	wide := slices.Repeat(nums(1), 40)
	for name, x := range map[string]struct {
		l          []api.Update
		exprs      []api.Expr
		want, errs []api.Update
	}{
		"nothing":             {nil, exprs(col(0)), nil, nil},
		"by nothing":          {up(nums(1), nil), nil, up(nums(1), nil), nil},
		"no columns":          {up(nil), exprs(lit(num(1)), lit(null())), up(of(num(1), null())), nil},
		"in order":            {up(nums(1, 2)), exprs(col(1), col(0), lit(text("a"))), up(of(num(1), num(2), num(2), num(1), text("a"))), nil},
		"the original row":    {up(nums(1)), exprs(lit(num(7)), col(1)), nil, up(nums(30))},
		"each":                {up(nums(1), nums(2), nums(1)), exprs(op(api.ExprNeg, col(0))), up(nums(1, -1), nums(2, -2), nums(1, -1)), nil},
		"some errors":         {up(nums(1), nums(0), nums(-1), of(text("a")), of(null())), exprs(zero), up(nums(1, 1), nums(-1, -1), of(null(), null())), up(nums(11), nums(31))},
		"the first error":     {up(nums(0)), exprs(lit(num(1)), zero, fail(9), fail(8)), nil, up(nums(11))},
		"the first of others": {up(nums(0)), exprs(fail(9), zero), nil, up(nums(9))},
		"errors of data":      {up(nums(math.MinInt64), of(text(strings.Repeat("a", 501)))), exprs(op(api.ExprIsNull, op(api.ExprCase, op(api.ExprEq, col(0), lit(null())), lit(null()), op(api.ExprNeg, col(0))))), nil, up(nums(10), nums(31))},
		"too long":            {up(of(text(strings.Repeat("a", 500))), of(text(strings.Repeat("a", 501)))), exprs(long), up(of(text(strings.Repeat("a", 500)), text(strings.Repeat("a", 1000)))), up(nums(12))},
		"the greatest error":  {up(nums(1)), exprs(fail(math.MaxUint16)), nil, up(nums(65535))},
		"no expression":       {up(nums(1)), exprs(api.Expr{}), nil, up(nums(30))},
		"an unknown operator": {up(nums(1)), exprs(op(24)), nil, up(nums(30))},
		"no such column":      {up(nums(1), nums(1, 2), nil), exprs(col(1)), up(nums(1, 2, 2)), up(nums(30), nums(30))},
		"below all columns":   {up(nums(1)), exprs(col(-1)), nil, up(nums(30))},
		"form after an error": {up(nums(0)), exprs(zero, api.Expr{}), nil, up(nums(11))},
		"form before one":     {up(nums(0)), exprs(api.Expr{}, zero), nil, up(nums(30))},
		"deep":                {up(nil), exprs(nested(api.MaxDeep)), up(of(truth(false))), nil},
		"too deep":            {up(nil), exprs(nested(api.MaxDeep + 1)), nil, up(nums(30))},
		"not valid":           {up(of(api.Datum{}, marked, api.Datum{Kind: 9, Int: 3}, text("\xff"))), exprs(col(2), col(1), col(3), col(0)), up(of(api.Datum{}, marked, api.Datum{Kind: 9, Int: 3}, text("\xff"), api.Datum{Kind: 9, Int: 3}, marked, text("\xff"), api.Datum{})), nil},
		"many columns":        {up(wide), exprs(col(39), op(api.ExprAdd, col(32), col(33))), up(slices.Concat(wide, nums(1, 2))), nil},
		"more columns":        {up(nums(1)), slices.Repeat(exprs(col(0)), 50), up(slices.Repeat(nums(1), 51)), nil},
		"not combined":        {updates(update(1, at(1), nums(1)), update(0, at(1), nums(1)), update(-1, at(1), nums(1)), update(1, at(1), nums(0)), update(0, at(1), nums(0)), update(-1, at(1), nums(0))), exprs(zero), updates(update(1, at(1), nums(1, 1)), update(0, at(1), nums(1, 1)), update(-1, at(1), nums(1, 1))), updates(update(1, at(1), nums(11)), update(0, at(1), nums(11)), update(-1, at(1), nums(11)))},
		"times and Diffs":     {updates(update(math.MinInt64, at(math.MaxUint64, 9, 8, 7, 6, 5), nums(0)), update(math.MaxInt64, at(0, math.MaxUint32), nums(0)), update(math.MinInt64, at(math.MaxUint64, 9, 8, 7, 6, 5), nums(1))), exprs(zero), updates(update(math.MinInt64, at(math.MaxUint64, 9, 8, 7, 6, 5), nums(1, 1))), updates(update(math.MinInt64, at(math.MaxUint64, 9, 8, 7, 6, 5), nums(11)), update(math.MaxInt64, at(0, math.MaxUint32), nums(11)))},
	} {
		got, errs := linear.Map(x.l, x.exprs)
		expect(t, name, got, errs, x.want, x.errs)
	}
}

func TestFilter(t *testing.T) {
	zero := op(api.ExprEq, op(api.ExprDiv, lit(num(1)), col(0)), lit(num(1)))
	all := up(of(truth(true)), of(truth(false)), of(null()))
	bad := func(kind api.Kind) api.Datum { return api.Datum{Kind: kind, Bool: true, Int: 7, Text: "x"} }
	yes, no, unknown := lit(truth(true)), lit(truth(false)), lit(null())
	for name, x := range map[string]struct {
		l          []api.Update
		exprs      []api.Expr
		want, errs []api.Update
	}{
		"nothing":               {nil, exprs(col(0)), nil, nil},
		"by nothing":            {all, nil, all, nil},
		"true, false and null":  {all, exprs(col(0)), up(of(truth(true))), nil},
		"the reverse":           {all, exprs(op(api.ExprNot, col(0))), up(of(truth(false))), nil},
		"all true":              {up(nums(1)), exprs(yes, yes, yes), up(nums(1)), nil},
		"the last one false":    {up(nums(1)), exprs(yes, yes, no), nil, nil},
		"the last one null":     {up(nums(1)), exprs(yes, yes, unknown), nil, nil},
		"some errors":           {up(nums(1), nums(0), nums(2), of(text("a")), of(null()), nums(1)), exprs(zero), up(nums(1), nums(1)), up(nums(11), nums(31))},
		"an error after true":   {up(nums(0)), exprs(yes, zero), nil, up(nums(11))},
		"none after false":      {up(nums(0)), exprs(no, zero), nil, nil},
		"none after null":       {up(nums(0)), exprs(unknown, zero), nil, nil},
		"the first error":       {up(nums(0)), exprs(zero, fail(9)), nil, up(nums(11))},
		"the first of others":   {up(nums(0)), exprs(fail(9), zero), nil, up(nums(9))},
		"false after an error":  {up(nums(0)), exprs(zero, no), nil, up(nums(11))},
		"an integer":            {up(nums(1), nums(0)), exprs(col(0)), nil, up(nums(31), nums(31))},
		"a text":                {up(of(text("true"))), exprs(yes, col(0)), nil, up(nums(31))},
		"an integer after null": {up(nums(1)), exprs(unknown, col(0)), nil, nil},
		"false after a text":    {up(of(text(""))), exprs(col(0), no), nil, up(nums(31))},
		"a type before another": {up(of(text(""))), exprs(col(0), fail(9)), nil, up(nums(31))},
		"no expression":         {up(nums(1)), exprs(yes, api.Expr{}), nil, up(nums(30))},
		"none that is needed":   {up(nums(1)), exprs(no, api.Expr{}, col(7), col(-1)), nil, nil},
		"no such column":        {up(of(truth(true)), of(truth(true), truth(true)), of(truth(false), truth(false))), exprs(col(1)), up(of(truth(true), truth(true))), up(nums(30))},
		"deep":                  {up(nil), exprs(nested(api.MaxDeep - 1)), up(nil), nil},
		"too deep":              {up(nil), exprs(nested(api.MaxDeep + 1)), nil, up(nums(30))},
		"by their Kind":         {up(of(bad(api.KindBool)), of(bad(api.KindNull)), of(bad(api.KindInt)), of(bad(api.KindText)), of(bad(0)), of(bad(5)), of(bad(255))), exprs(col(0)), up(of(bad(api.KindBool))), up(nums(31), nums(31), nums(31), nums(31), nums(31))},
		"true by its field":     {up(of(api.Datum{Kind: api.KindBool, Int: 1, Text: "true"})), exprs(col(0)), nil, nil},
		"of no kind":            {up(of(api.Datum{})), exprs(col(0)), nil, up(nums(31))},
		"rows as they are":      {up(of(bad(9), text("\xff"), truth(true))), exprs(col(2)), up(of(bad(9), text("\xff"), truth(true))), nil},
		"not combined":          {updates(update(1, at(1), nums(1)), update(0, at(1), nums(1)), update(-1, at(1), nums(1)), update(1, at(1), nums(0)), update(0, at(1), nums(0)), update(-1, at(1), nums(0))), exprs(zero), updates(update(1, at(1), nums(1)), update(0, at(1), nums(1)), update(-1, at(1), nums(1))), updates(update(1, at(1), nums(11)), update(0, at(1), nums(11)), update(-1, at(1), nums(11)))},
		"times and Diffs":       {updates(update(math.MinInt64, at(math.MaxUint64, 9, 8, 7, 6, 5), nums(0)), update(math.MinInt64, at(math.MaxUint64, 9, 8, 7, 6, 5), nums(1)), update(math.MaxInt64, at(0, math.MaxUint32), nums(0))), exprs(zero), updates(update(math.MinInt64, at(math.MaxUint64, 9, 8, 7, 6, 5), nums(1))), updates(update(math.MinInt64, at(math.MaxUint64, 9, 8, 7, 6, 5), nums(11)), update(math.MaxInt64, at(0, math.MaxUint32), nums(11)))},
	} {
		got, errs := linear.Filter(x.l, x.exprs)
		expect(t, name, got, errs, x.want, x.errs)
	}
}

func TestProject(t *testing.T) {
	odd := of(api.Datum{Kind: 9, Int: 3}, api.Datum{Kind: api.KindNull, Text: "x"}, text("\xff"))
	for name, x := range map[string]struct {
		l    []api.Update
		cols []int
		want []api.Update
	}{
		"nothing":         {nil, []int{0}, nil},
		"no columns":      {up(nums(1), nil), nil, up(nil, nil)},
		"of no columns":   {up(nil), []int{0, 1}, up(of(null(), null()))},
		"in order":        {up(nums(1, 2, 3), nums(4, 5, 6)), []int{2, 0}, up(nums(3, 1), nums(6, 4))},
		"several times":   {up(nums(1, 2)), []int{1, 0, 1, 1}, up(nums(2, 1, 2, 2))},
		"behind the last": {up(nums(1, 2), nums(1, 2, 3)), []int{2, 1}, up(of(null(), num(2)), nums(3, 2))},
		"ahead of the first": {up(nums(1, 2)), []int{-1, 0, math.MinInt, math.MaxInt},
			up(of(null(), num(1), null(), null()))},
		"as they are":  {up(odd), []int{2, 1, 0, 1}, up(of(odd[2], odd[1], odd[0], odd[1]))},
		"many columns": {up(nums(7)), make([]int, 100), up(slices.Repeat(nums(7), 100))},
		"not combined": {updates(update(1, at(2), nums(1, 2)), update(0, at(2), nums(1, 3)), update(-1, at(2, 3), nums(1, 2))), []int{0}, updates(update(1, at(2), nums(1)), update(0, at(2), nums(1)), update(-1, at(2, 3), nums(1)))},
	} {
		expect(t, name, linear.Project(x.l, x.cols), nil, x.want, nil)
	}
}

func TestNegate(t *testing.T) {
	for name, x := range map[string]struct{ l, want []api.Update }{
		"nothing":       {nil, nil},
		"either sign":   {updates(update(1, at(1), nums(1)), update(-3, at(2, 0), of(text("a"))), update(1, at(1), nums(1))), updates(update(-1, at(1), nums(1)), update(3, at(2, 0), of(text("a"))), update(-1, at(1), nums(1)))},
		"zero":          {updates(update(0, at(1), nil)), updates(update(0, at(1), nil))},
		"the least":     {updates(update(math.MinInt64, at(1), nil), update(math.MinInt64+1, at(1), nil), update(math.MaxInt64, at(1), nil)), updates(update(math.MinInt64, at(1), nil), update(math.MaxInt64, at(1), nil), update(math.MinInt64+1, at(1), nil))},
		"rows that are": {up(of(api.Datum{Kind: 9, Int: 3})), updates(update(-1, at(1), of(api.Datum{Kind: 9, Int: 3})))},
	} {
		expect(t, name, linear.Negate(x.l), nil, x.want, nil)
	}
}

// moved is one row at each of the times.
func moved(times ...api.Time) []api.Update {
	var out []api.Update
	for i, t := range times {
		out = append(out, update(int64(i%2*2-1), t, nums(7)))
	}
	return out
}

func TestMove(t *testing.T) {
	greatest := at(math.MaxUint64)
	for name, x := range map[string]struct {
		l    []api.Update
		p    api.Path
		want []api.Update
	}{
		"nothing":            {nil, api.Path{Add: 1}, nil},
		"no way":             {moved(at(1), at(1, 2, 3, 4), at(1, 2, 3, 4, 5)), api.Path{}, moved(at(1), at(1, 2, 3, 4))},
		"next round":         {moved(at(1, 2), at(1), at(3, 4, 5)), api.Path{Add: 2}, moved(at(1, 4), at(3), at(3, 4, 7))},
		"into a loop":        {moved(at(1), at(0, 5), at(1)), api.Path{Enter: []uint32{3}}, moved(at(1, 3), at(0, 5, 3), at(1, 3))},
		"out of a loop":      {moved(at(1, 2), at(1, 2, 3)), api.Path{Leave: 1, Add: 1}, moved(at(2), at(1, 3))},
		"out of and into":    {moved(at(1, 2)), api.Path{Leave: 1, Enter: []uint32{8, 9}}, moved(at(1, 8, 9))},
		"in no loop":         {updates(update(5, at(1), nums(1)), update(6, at(1, 2), nums(2)), update(7, at(3), nums(3)), update(8, at(4, 0), nums(4))), api.Path{Leave: 1}, updates(update(6, at(1), nums(2)), update(8, at(4), nums(4)))},
		"below no loop":      {moved(at(1), at(1, 2)), api.Path{Leave: -1}, nil},
		"into too many":      {updates(update(5, at(1, 2, 3, 4), nums(1)), update(6, at(1, 2, 3), nums(2))), api.Path{Enter: []uint32{0}}, updates(update(6, at(1, 2, 3, 0), nums(2)))},
		"the last round":     {updates(update(5, at(1, math.MaxUint32), nums(1)), update(6, at(1, math.MaxUint32-1), nums(2)), update(7, at(math.MaxUint32), nums(3))), api.Path{Add: 1}, updates(update(6, at(1, math.MaxUint32), nums(2)), update(7, at(math.MaxUint32+1), nums(3)))},
		"the last epoch":     {updates(update(5, greatest, nums(1)), update(6, at(math.MaxUint64-1), nums(2))), api.Path{Add: 1}, updates(update(6, greatest, nums(2)))},
		"at the last epoch":  {updates(update(5, greatest, nums(1))), api.Path{Enter: []uint32{1}}, updates(update(5, at(math.MaxUint64, 1), nums(1)))},
		"not combined":       {updates(update(1, at(1, 2), nums(1)), update(0, at(1, 3), nums(1)), update(-1, at(1, 2), nums(1))), api.Path{Leave: 1}, updates(update(1, at(1), nums(1)), update(0, at(1), nums(1)), update(-1, at(1), nums(1)))},
		"beyond all times":   {moved(at(math.MaxUint64), at(1<<62)), api.Path{Add: math.MaxUint32}, updates(update(1, at(1<<62+math.MaxUint32), nums(7)))},
		"rows as they are":   {up(of(api.Datum{Kind: 9, Int: 3}, text("\xff"))), api.Path{Add: 1}, updates(update(1, at(2), of(api.Datum{Kind: 9, Int: 3}, text("\xff"))))},
		"out of all of them": {moved(at(1, 2, 3, 4, 5, 6)), api.Path{Leave: 5, Add: 9}, moved(at(10))},
	} {
		expect(t, name, linear.Move(x.l, x.p), nil, x.want, nil)
	}
}

func TestPart(t *testing.T) {
	l := updates(update(1, at(1), nums(1)), update(0, at(2, 3), of(text("a"), num(2))), update(math.MinInt64, at(1), nums(3)), update(1, at(1), nums(1)), update(-1, at(9), nil), update(1, at(1), of(api.Datum{Kind: 9}, num(4))))
	for _, cols := range [][]int{nil, {0}, {1}, {0, 1}, {1, 0, 0}, {-1, 5}, {math.MinInt, 0, math.MaxInt}} {
		for _, workers := range []int{1, 2, 3, 8, 1000, math.MaxInt} {
			for _, w := range []int{0, 1, 2, 3, 7, 8, 999, math.MaxInt, -1, math.MinInt, int(row.Hash(l[0].Row, cols) % uint64(workers))} {
				var want []api.Update
				for _, u := range l {
					if row.Hash(u.Row, cols)%uint64(workers) == uint64(w) {
						want = append(want, u)
					}
				}
				expect(t, "Part", linear.Part(l, cols, workers, w), nil, want, nil)
			}
		}
	}
}

func TestPartOfNoWorkers(t *testing.T) {
	l := up(nums(1), nums(2), nil)
	for _, workers := range []int{0, -1, -8, math.MinInt} {
		for _, w := range []int{0, -1, -8, 1, math.MinInt, math.MaxInt} {
			expect(t, "Part", linear.Part(l, []int{0}, workers, w), nil, nil, nil)
		}
	}
	expect(t, "Part of nothing", linear.Part(nil, []int{0}, 1, 0), nil, nil, nil)
	expect(t, "Part of all", linear.Part(l, nil, 1, 0), nil, l, nil)
}
