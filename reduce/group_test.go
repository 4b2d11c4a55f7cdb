package reduce_test

import (
	"math"
	"slices"
	"strings"
	"testing"

	"penstock/api"
	"penstock/datum"
	"penstock/reduce"
)

func num(n int64) api.Datum { return api.Datum{Kind: api.KindInt, Int: n} }

func text(s string) api.Datum { return api.Datum{Kind: api.KindText, Text: s} }

func truth(b bool) api.Datum { return api.Datum{Kind: api.KindBool, Bool: b} }

func null() api.Datum { return api.Datum{Kind: api.KindNull} }

func cols(l ...int) []int { return l }

func row(data ...api.Datum) api.Row { return data }

func nums(l ...int64) api.Row {
	var out api.Row
	for _, n := range l {
		out = append(out, num(n))
	}
	return out
}

// times is a row, so many times.
func times(n int64, data ...api.Datum) api.Counted { return api.Counted{Row: data, Count: n} }

func bag(l ...api.Counted) []api.Counted { return l }

func faults(l ...api.Fault) []api.Fault { return l }

func fault(e api.Errno, n int64) api.Fault { return api.Fault{Err: e, Count: n} }

func col(n int) api.Expr { return api.Expr{Op: api.ExprCol, Col: n} }

func lit(d api.Datum) api.Expr { return api.Expr{Op: api.ExprLit, Lit: d} }

func fail(e api.Errno) api.Expr { return api.Expr{Op: api.ExprFail, Lit: num(int64(e))} }

// on is an expression of an operator.
func on(op uint8, kids ...api.Expr) api.Expr { return api.Expr{Op: op, Kids: kids} }

func countAll() api.Agg { return api.Agg{Func: api.AggCountAll} }

func count(e api.Expr) api.Agg { return api.Agg{Func: api.AggCount, Expr: e} }

func sum(e api.Expr) api.Agg { return api.Agg{Func: api.AggSum, Expr: e} }

func least(e api.Expr) api.Agg { return api.Agg{Func: api.AggMin, Expr: e} }

func greatest(e api.Expr) api.Agg { return api.Agg{Func: api.AggMax, Expr: e} }

func distinct(a api.Agg) api.Agg {
	a.Distinct = true
	return a
}

func by(cols []int, aggs ...api.Agg) api.Rel {
	return api.Rel{Kind: api.RelReduce, Cols: cols, Aggs: aggs}
}

func threshold() api.Rel { return api.Rel{Kind: api.RelThreshold} }

func top(cols []int, limit, offset int, order ...api.Sort) api.Rel {
	return api.Rel{Kind: api.RelTop, Cols: cols, Limit: limit, Offset: offset, Order: order}
}

func up(c int) api.Sort { return api.Sort{Col: c} }

func down(c int) api.Sort { return api.Sort{Col: c, Down: true} }

func sameBag(a, b []api.Counted) bool {
	return slices.EqualFunc(a, b, func(x, y api.Counted) bool { return x.Count == y.Count && slices.Equal(x.Row, y.Row) })
}

// comesTo says what Group should answer.
func comesTo(t *testing.T, name string, spec api.Rel, key api.Row, rows, want []api.Counted, wrong []api.Fault) {
	t.Helper()
	got, errs := reduce.Group(spec, key, rows)
	if !sameBag(got, want) || !slices.Equal(errs, wrong) {
		t.Errorf("%s: %v come to %v, %v, want %v, %v", name, rows, got, errs, want, wrong)
	}
}

func TestKey(t *testing.T) {
	r := row(num(5), text("a"), null(), truth(true))
	for name, x := range map[string]struct {
		spec api.Rel
		want api.Row
	}{
		"no columns":        {by(nil), nil},
		"one":               {by(cols(1)), row(text("a"))},
		"in their order":    {by(cols(3, 0, 2)), row(truth(true), num(5), null())},
		"several times":     {by(cols(1, 1, 0, 1)), row(text("a"), text("a"), num(5), text("a"))},
		"that it lacks":     {by(cols(4, 31)), row(null(), null())},
		"some that it has":  {by(cols(9, 0)), row(null(), num(5))},
		"aggregations":      {by(cols(0), sum(col(1)), countAll()), row(num(5))},
		"top":               {top(cols(3, 7), 1, 2, up(0)), row(truth(true), null())},
		"top of all":        {top(nil, -1, 0), nil},
		"threshold":         {threshold(), r},
		"threshold by":      {api.Rel{Kind: api.RelThreshold, Cols: cols(0)}, r},
		"reduced, ordered":  {api.Rel{Kind: api.RelReduce, Cols: cols(1), Order: []api.Sort{down(0)}}, row(text("a"))},
		"all, and one more": {by(cols(0, 1, 2, 3, 4)), append(slices.Clone(r), null())},
	} {
		if got := reduce.Key(x.spec, r); !slices.Equal(got, x.want) {
			t.Errorf("%s: %v, want %v", name, got, x.want)
		}
	}
	if got := reduce.Key(threshold(), nil); len(got) != 0 {
		t.Errorf("%v", got)
	}
	if got := reduce.Key(by(cols(0)), nil); !slices.Equal(got, row(null())) {
		t.Errorf("%v", got)
	}
	long := slices.Repeat(row(text("x")), api.MaxColumns)
	if got := reduce.Key(threshold(), long); !slices.Equal(got, long) {
		t.Errorf("%v", got)
	}
}

// Each aggregation of column 0, of rows without errors.
func TestAggregations(t *testing.T) {
	const most, low = math.MaxInt64, math.MinInt64
	none := null()
	for name, x := range map[string]struct {
		rows []api.Counted
		want api.Row // of count(*), count, sum, min, max, and the last four with Distinct
	}{
		"one row":             {bag(times(1, num(5))), row(num(1), num(1), num(5), num(5), num(5), num(1), num(5), num(5), num(5))},
		"several":             {bag(times(1, num(5)), times(1, num(-7)), times(1, num(3))), row(num(3), num(3), num(1), num(-7), num(5), num(3), num(1), num(-7), num(5))},
		"each several times":  {bag(times(4, num(5)), times(3, num(2))), row(num(7), num(7), num(26), num(2), num(5), num(2), num(7), num(2), num(5))},
		"in other rows, too":  {bag(times(4, num(5), num(0)), times(3, num(5), num(1)), times(1, num(5))), row(num(8), num(8), num(40), num(5), num(5), num(1), num(5), num(5), num(5))},
		"equal ones apart":    {bag(times(1, num(5), num(0)), times(1, num(6), num(0)), times(1, num(5), num(1))), row(num(3), num(3), num(16), num(5), num(6), num(2), num(11), num(5), num(6))},
		"given twice":         {bag(times(1, num(5)), times(2, num(4)), times(2, num(5))), row(num(5), num(5), num(23), num(4), num(5), num(2), num(9), num(4), num(5))},
		"taken away":          {bag(times(1, num(5)), times(2, num(4)), times(-1, num(5))), row(num(2), num(2), num(8), num(4), num(4), num(1), num(4), num(4), num(4))},
		"taken away in part":  {bag(times(-1, num(5)), times(2, num(4)), times(2, num(5))), row(num(3), num(3), num(13), num(4), num(5), num(2), num(9), num(4), num(5))},
		"zero times":          {bag(times(0, num(9)), times(1, num(4))), row(num(1), num(1), num(4), num(4), num(4), num(1), num(4), num(4), num(4))},
		"null alone":          {bag(times(3, null())), row(num(3), num(0), none, none, none, num(0), none, none, none)},
		"null, too":           {bag(times(3, null()), times(2, num(0))), row(num(5), num(2), num(0), num(0), num(0), num(1), num(0), num(0), num(0))},
		"numbers that cancel": {bag(times(1, num(most)), times(1, num(-most))), row(num(2), num(2), num(0), num(-most), num(most), num(2), num(0), num(-most), num(most))},
		"the greatest sum":    {bag(times(1, num(most-1)), times(1, num(1))), row(num(2), num(2), num(most), num(1), num(most-1), num(2), num(most), num(1), num(most-1))},
		"the least sum":       {bag(times(1, num(low+1)), times(1, num(-1))), row(num(2), num(2), num(low), num(low+1), num(-1), num(2), num(low), num(low+1), num(-1))},
		"the least number":    {bag(times(1, num(low))), row(num(1), num(1), num(low), num(low), num(low), num(1), num(low), num(low), num(low))},
		"great counts":        {bag(times(most, num(1))), row(num(most), num(most), num(most), num(1), num(1), num(1), num(1), num(1), num(1))},
		"great counts of 0":   {bag(times(most, num(0)), times(1, num(0), num(1))), row(num(low), num(low), num(0), num(0), num(0), num(1), num(0), num(0), num(0))},
		"counts wrap around":  {bag(times(most, num(0)), times(most, num(1)), times(2, num(-1)), times(1, num(2-most))), row(num(1), num(1), num(0), num(2-most), num(1), num(4), num(2-most), num(2-most), num(1))},
		"half of it":          {bag(times(1<<62, num(2)), times(1<<61, num(-4))), row(num(1<<62+1<<61), num(1<<62+1<<61), num(0), num(-4), num(2), num(2), num(-2), num(-4), num(2))},
	} {
		aggs := []api.Agg{countAll(), count(col(0)), sum(col(0)), least(col(0)), greatest(col(0)), distinct(count(col(0))), distinct(sum(col(0))), distinct(least(col(0))), distinct(greatest(col(0)))}
		comesTo(t, name, by(nil, aggs...), nil, x.rows, bag(times(1, x.want...)), nil)
	}
}

// Values of all kinds are in the order of datum.Cmp, and count.
func TestAggregationsOfAnyKind(t *testing.T) {
	all := row(null(), truth(false), truth(true), num(math.MinInt64), num(-1), num(10), text(""), text("10"), text("9"), text("é"))
	aggs := []api.Agg{count(col(0)), least(col(0)), greatest(col(0)), distinct(count(col(0))), distinct(least(col(0))), distinct(greatest(col(0)))}
	for i := range all {
		for k := i; k < len(all); k++ {
			var rows []api.Counted
			for n, d := range all[i : k+1] {
				rows = slices.Insert(rows, n/2, times(2, d))
			}
			n, low := int64(k-i+1), all[i]
			if i == 0 { // null does not count
				n, low = n-1, all[min(1, k)]
			}
			comesTo(t, "kinds", by(nil, aggs...), nil, rows, bag(times(1, num(2*n), low, all[k], num(n), low, all[k])), nil)
		}
	}
}

// A sum is exact, whatever is added up on the way.
func TestExactSums(t *testing.T) {
	const most, low = math.MaxInt64, math.MinInt64
	for name, x := range map[string]struct {
		rows []api.Counted
		want api.Datum // of no kind, where the sum is too great
	}{
		"one above":                    {bag(times(1, num(most)), times(1, num(1))), api.Datum{}},
		"one below":                    {bag(times(1, num(low)), times(1, num(-1))), api.Datum{}},
		"the least twice":              {bag(times(2, num(low))), api.Datum{}},
		"the least by two rows":        {bag(times(1, num(low), num(0)), times(1, num(low), num(1))), api.Datum{}},
		"the least, and its rest":      {bag(times(1, num(low)), times(1, num(most)), times(1, num(1))), num(0)},
		"above, and back":              {bag(times(1, num(most)), times(1, num(5)), times(1, num(-6))), num(most - 1)},
		"below, and back":              {bag(times(1, num(low)), times(1, num(5)), times(1, num(-6)), times(1, num(1))), num(low)},
		"2^63":                         {bag(times(1<<62, num(2))), api.Datum{}},
		"-2^63":                        {bag(times(1<<62, num(-2))), num(low)},
		"-2^63-1":                      {bag(times(1<<62, num(-2)), times(1, num(-1))), api.Datum{}},
		"2^64":                         {bag(times(1<<62, num(4))), api.Datum{}},
		"2^64 and back":                {bag(times(1<<62, num(4)), times(1<<61, num(-8)), times(1, num(7))), num(7)},
		"great by great":               {bag(times(most, num(most))), api.Datum{}},
		"great by least":               {bag(times(most, num(low))), api.Datum{}},
		"great by great and back":      {bag(times(most, num(most)), times(most, num(-most)), times(3, num(-1))), num(-3)},
		"2^126 four times":             {bag(times(1<<62, num(low), num(0)), times(1<<62, num(low), num(1)), times(1<<62, num(low), num(2)), times(1<<62, num(low), num(3))), api.Datum{}},
		"-2^128":                       {bag(times(most, num(low), num(0)), times(most, num(low), num(1)), times(most, num(low), num(2)), times(most, num(low), num(3)), times(4, num(low), num(4))), api.Datum{}},
		"2^127":                        {bag(times(1<<62, num(1<<62), num(0)), times(1<<62, num(1<<62), num(1)), times(1<<62, num(1<<62), num(2)), times(1<<62, num(1<<62), num(3)), times(1<<62, num(1<<62), num(4)), times(1<<62, num(1<<62), num(5)), times(1<<62, num(1<<62), num(6)), times(1<<62, num(1<<62), num(7))), api.Datum{}},
		"-2^127, and all of that back": {bag(times(1<<62, num(low), num(0)), times(1<<62, num(low), num(1)), times(1<<62, num(low), num(2)), times(1<<62, num(most), num(0)), times(1<<62, num(most), num(1)), times(1<<62, num(most), num(2)), times(1<<62, num(3)), times(5, num(1))), num(5)},
	} {
		want, wrong := bag(times(1, num(9), x.want)), faults()
		if x.want.Kind == 0 {
			want, wrong = nil, faults(fault(api.ErrDatumOver, 1))
		}
		comesTo(t, name, by(cols(0), sum(col(0))), nums(9), x.rows, want, wrong)
	}
}

func TestGroupOfReduce(t *testing.T) {
	quotient := on(api.ExprDiv, col(0), col(1))
	for name, x := range map[string]struct {
		aggs  []api.Agg
		rows  []api.Counted
		want  []api.Counted
		wrong []api.Fault
	}{
		"no rows":                {[]api.Agg{countAll(), sum(col(0))}, nil, nil, nil},
		"no rows that count":     {[]api.Agg{countAll()}, bag(times(1, num(1)), times(-1, num(1)), times(0, num(2))), nil, nil},
		"no aggregations":        {nil, bag(times(2, num(1)), times(1, num(2))), bag(times(1, num(9))), nil},
		"no columns of rows":     {[]api.Agg{countAll(), sum(lit(num(3)))}, bag(times(4)), bag(times(1, num(9), num(4), num(12))), nil},
		"expressions":            {[]api.Agg{sum(on(api.ExprMul, col(0), col(1))), greatest(on(api.ExprNeg, col(0)))}, bag(times(2, num(3), num(4)), times(1, num(5), num(6))), bag(times(1, num(9), num(54), num(-3))), nil},
		"one fails":              {[]api.Agg{countAll(), sum(quotient)}, bag(times(2, num(6), num(3)), times(3, num(1), num(0)), times(1, num(8), num(2))), bag(times(1, num(9), num(3), num(8))), faults(fault(api.ErrDatumZero, 3))},
		"all fail":               {[]api.Agg{countAll(), sum(quotient)}, bag(times(2, num(6), num(0)), times(3, num(1), num(0))), nil, faults(fault(api.ErrDatumZero, 5))},
		"the first one":          {[]api.Agg{sum(fail(77)), sum(fail(66))}, bag(times(2, num(6))), nil, faults(fault(77, 2))},
		"the second one alone":   {[]api.Agg{count(quotient), least(on(api.ExprAdd, col(0), col(2)))}, bag(times(2, num(6), num(0), num(0)), times(3, num(6), num(1), text("")), times(5, num(6), num(0), text(""))), nil, faults(fault(api.ErrDatumZero, 7), fault(api.ErrExprType, 3))},
		"of count, min and max":  {[]api.Agg{count(quotient), least(quotient), greatest(quotient), distinct(count(quotient))}, bag(times(1, num(6), num(0)), times(1, num(7), num(1))), bag(times(1, num(9), num(1), num(7), num(7), num(1))), faults(fault(api.ErrDatumZero, 1))},
		"in ascending order":     {[]api.Agg{sum(on(api.ExprCase, on(api.ExprEq, col(0), lit(num(1))), fail(300), on(api.ExprEq, col(0), lit(num(2))), fail(4), fail(65535)))}, bag(times(1, num(1)), times(1, num(2)), times(1, num(3))), nil, faults(fault(4, 1), fault(300, 1), fault(65535, 1))},
		"count(*) asks nothing":  {[]api.Agg{{Func: api.AggCountAll, Expr: fail(5)}, {Func: api.AggCountAll, Expr: col(30), Distinct: true}}, bag(times(2, num(1)), times(3, num(2))), bag(times(1, num(9), num(5), num(5))), nil},
		"a column that it lacks": {[]api.Agg{count(col(1))}, bag(times(2, num(1)), times(3, num(2), num(3))), bag(times(1, num(9), num(3))), faults(fault(api.ErrExprForm, 2))},
		"no expression":          {[]api.Agg{count(api.Expr{})}, bag(times(2, num(1))), nil, faults(fault(api.ErrExprForm, 2))},
		"below 0 times":          {[]api.Agg{countAll()}, bag(times(1, num(1)), times(-1, num(2))), nil, faults(fault(api.ErrMirMinus, 1))},
		"below 0, all":           {nil, bag(times(-3, num(1))), nil, faults(fault(api.ErrMirMinus, 1))},
		"below 0, least":         {nil, bag(times(math.MinInt64, num(1))), nil, faults(fault(api.ErrMirMinus, 1))},
		"below 0, but wrong":     {[]api.Agg{sum(quotient)}, bag(times(-3, num(1), num(0)), times(1, num(1), num(1))), bag(times(1, num(9), num(1))), faults(fault(api.ErrDatumZero, -3))},
		"below 0, and wrong":     {[]api.Agg{sum(quotient)}, bag(times(3, num(1), num(0)), times(-1, num(1), num(1)), times(-1, num(1), num(2))), nil, faults(fault(api.ErrDatumZero, 3), fault(api.ErrMirMinus, 1))},
		"below 0, no sum":        {[]api.Agg{sum(col(0))}, bag(times(-3, num(1)), times(1, text("a"))), nil, faults(fault(api.ErrMirMinus, 1))},
		"wrong, but 0 in all":    {[]api.Agg{sum(quotient)}, bag(times(3, num(1), num(0)), times(-3, num(2), num(0))), nil, nil},
		"wrong counts wrap":      {[]api.Agg{sum(quotient)}, bag(times(math.MaxInt64, num(1), num(0)), times(1, num(2), num(0))), nil, faults(fault(api.ErrDatumZero, math.MinInt64))},
		"the same fault, twice":  {[]api.Agg{sum(on(api.ExprCase, on(api.ExprIsNull, col(0)), fail(api.ErrMirMinus), col(0)))}, bag(times(2, null()), times(-1, num(1))), nil, faults(fault(api.ErrMirMinus, 3))},
		"the same fault, back":   {[]api.Agg{sum(on(api.ExprCase, on(api.ExprIsNull, col(0)), fail(api.ErrMirMinus), col(0)))}, bag(times(-1, null()), times(-1, num(1))), nil, nil},
		"a sum of texts":         {[]api.Agg{countAll(), sum(col(0))}, bag(times(2, text("1")), times(1, num(1))), nil, faults(fault(api.ErrExprType, 1))},
		"a sum of truths":        {[]api.Agg{sum(col(0))}, bag(times(2, truth(true))), nil, faults(fault(api.ErrExprType, 1))},
		"distinct, of texts":     {[]api.Agg{distinct(sum(col(0)))}, bag(times(2, text("1"))), nil, faults(fault(api.ErrExprType, 1))},
		"the type comes first":   {[]api.Agg{sum(col(0))}, bag(times(2, num(math.MinInt64)), times(1, text("1"))), nil, faults(fault(api.ErrExprType, 1))},
		"the first agg's":        {[]api.Agg{sum(col(0)), sum(col(1))}, bag(times(2, num(math.MinInt64), text("1"))), nil, faults(fault(api.ErrDatumOver, 1))},
		"the second agg's":       {[]api.Agg{sum(lit(num(1))), sum(col(1)), sum(col(0))}, bag(times(2, num(math.MinInt64), text("1"))), nil, faults(fault(api.ErrExprType, 1))},
		"beside a row's fault":   {[]api.Agg{sum(col(0)), sum(quotient)}, bag(times(2, num(math.MaxInt64), num(1)), times(5, num(1), num(0)), times(1, num(2), num(0))), nil, faults(fault(api.ErrDatumOver, 1), fault(api.ErrDatumZero, 6))},
		"added to a row's fault": {[]api.Agg{sum(on(api.ExprAdd, col(0), lit(num(1))))}, bag(times(2, num(math.MaxInt64-1)), times(5, num(math.MaxInt64))), nil, faults(fault(api.ErrDatumOver, 6))},
		"distinct, not too much": {[]api.Agg{distinct(sum(col(0))), distinct(count(col(0)))}, bag(times(2, num(math.MinInt64), num(1)), times(5, num(math.MinInt64), num(2))), bag(times(1, num(9), num(math.MinInt64), num(1))), nil},
		"null is no other kind":  {[]api.Agg{sum(col(0))}, bag(times(2, null()), times(5, num(2))), bag(times(1, num(9), num(10))), nil},
	} {
		comesTo(t, name, by(cols(0), x.aggs...), nums(9), x.rows, x.want, x.wrong)
	}
}

// The key is what was given, whatever the rows have there.
func TestTheKeyComesFirst(t *testing.T) {
	rows := bag(times(2, num(1), num(2)))
	key := row(null(), text("it's"), truth(false))
	comesTo(t, "a key", by(cols(0, 1, 0), countAll()), key, rows, bag(times(1, null(), text("it's"), truth(false), num(2))), nil)
	comesTo(t, "no key", by(nil, countAll()), nil, rows, bag(times(1, num(2))), nil)
	comesTo(t, "neither key nor aggregation", by(nil), nil, rows, bag(times(1)), nil)
	wide := slices.Repeat(row(num(7)), api.MaxColumns)
	comesTo(t, "many of both", by(make([]int, api.MaxColumns), slices.Repeat([]api.Agg{countAll()}, api.MaxColumns)...), wide, rows,
		bag(times(1, slices.Concat(wide, slices.Repeat(row(num(2)), api.MaxColumns))...)), nil)
}

func TestGroupOfTop(t *testing.T) {
	const most = math.MaxInt64
	some := bag(times(2, num(1), num(5)), times(1, num(1), num(7)), times(3, num(2), num(6)), times(1, num(3)))
	for name, x := range map[string]struct {
		spec       api.Rel
		rows, want []api.Counted
	}{
		"no rows":                  {top(nil, 5, 0, up(0)), nil, nil},
		"all":                      {top(nil, -1, 0, down(1)), some, some},
		"all, with room":           {top(nil, 7, 0, down(1)), some, some},
		"all but one":              {top(nil, 6, 0), some, bag(some[0], some[1], some[2])},
		"none":                     {top(nil, 0, 0), some, nil},
		"behind all":               {top(nil, -1, 7), some, nil},
		"far behind all":           {top(nil, 5, most), some, nil},
		"the last one":             {top(nil, -1, 6), some, bag(some[3])},
		"the document, down":       {top(nil, 1, 0, down(1)), bag(times(2, num(1), num(5)), times(1, num(1), num(7))), bag(times(1, num(1), num(7)))},
		"the document, behind":     {top(nil, 1, 1, down(1)), bag(times(2, num(1), num(5)), times(1, num(1), num(7))), bag(times(1, num(1), num(5)))},
		"by the whole rows":        {top(nil, 2, 1), some, bag(times(1, num(1), num(5)), times(1, num(1), num(7)))},
		"down by a column":         {top(nil, 3, 0, down(0)), some, bag(times(2, num(2), num(6)), times(1, num(3)))},
		"up by another one":        {top(nil, 2, 0, up(1)), some, bag(times(1, num(1), num(5)), times(1, num(3)))},
		"null where it lacks":      {top(nil, 1, 0, up(1)), some, bag(times(1, num(3)))},
		"null is last, down":       {top(nil, 1, 6, down(1)), some, bag(times(1, num(3)))},
		"then the next one":        {top(nil, 2, 0, up(0), down(1)), some, bag(times(1, num(1), num(5)), times(1, num(1), num(7)))},
		"then the next, too":       {top(nil, 3, 0, down(7), up(2), up(0), up(1)), some, bag(times(2, num(1), num(5)), times(1, num(1), num(7)))},
		"the first one counts":     {top(nil, 1, 0, down(0), up(0)), some, bag(times(1, num(3)))},
		"the rest is up":           {top(nil, 2, 0, down(5)), some, bag(times(2, num(1), num(5)))},
		"within one row":           {top(nil, 1, 4, up(0)), some, bag(times(1, num(2), num(6)))},
		"within several":           {top(nil, 4, 1, up(0)), some, bag(times(1, num(1), num(5)), times(1, num(1), num(7)), times(2, num(2), num(6)))},
		"kinds":                    {top(nil, 3, 1, down(0)), bag(times(1, null()), times(1, truth(true)), times(1, num(-5)), times(1, text("")), times(1)), bag(times(1), times(1, truth(true)), times(1, num(-5)))},
		"a row without columns":    {top(nil, 1, 0, up(0)), bag(times(1, null()), times(1)), bag(times(1))},
		"great counts":             {top(nil, -1, 0), bag(times(most, num(1)), times(most, num(2))), bag(times(most, num(1)), times(most, num(2)))},
		"great counts, cut":        {top(nil, most, 1), bag(times(most, num(1)), times(most, num(2))), bag(times(most-1, num(1)), times(1, num(2)))},
		"great counts, all behind": {top(nil, -1, most), bag(times(most, num(1)), times(most, num(2)), times(5, num(3))), bag(times(most, num(2)), times(5, num(3)))},
		"given in parts":           {top(nil, 2, 1), bag(times(3, num(2)), times(1, num(1)), times(-1, num(2)), times(0, num(0)), times(1, num(1))), bag(times(1, num(1)), times(1, num(2)))},
		"what is taken away":       {top(nil, 1, 0), bag(times(1, num(1)), times(1, num(2)), times(-1, num(1))), bag(times(1, num(2)))},
		"aggregations":             {api.Rel{Kind: api.RelTop, Limit: -1, Aggs: []api.Agg{sum(fail(5))}}, some, some},
	} {
		comesTo(t, name, x.spec, nums(9), x.rows, x.want, nil)
		turned := slices.Clone(x.rows)
		slices.Reverse(turned)
		comesTo(t, name+", turned", x.spec, nums(9), turned, x.want, nil)
	}
	for name, rows := range map[string][]api.Counted{
		"one row":      bag(times(-1, num(1))),
		"the last one": bag(times(5, num(1)), times(1, num(2)), times(-1, num(3))),
		"in all":       bag(times(5, num(1)), times(-6, num(1))),
		"the least":    bag(times(5, num(0)), times(math.MinInt64, num(1))),
	} {
		for _, spec := range []api.Rel{top(nil, -1, 0), top(nil, 1, 0), top(nil, 0, 0), top(nil, 1, 9)} {
			comesTo(t, name, spec, nil, rows, nil, faults(fault(api.ErrMirMinus, 1)))
		}
	}
}

func TestGroupOfThreshold(t *testing.T) {
	r := row(num(1), null())
	for name, x := range map[string]struct{ rows, want []api.Counted }{
		"no rows":       {nil, nil},
		"once":          {bag(times(1, r...)), bag(times(1, r...))},
		"often":         {bag(times(math.MaxInt64, r...)), bag(times(math.MaxInt64, r...))},
		"not at all":    {bag(times(0, r...)), nil},
		"below 0":       {bag(times(-1, r...)), nil},
		"least":         {bag(times(math.MinInt64, r...)), nil},
		"in parts":      {bag(times(3, r...), times(-1, r...)), bag(times(2, r...))},
		"wraps around":  {bag(times(math.MaxInt64, r...), times(1, r...)), nil},
		"and back":      {bag(times(math.MinInt64, r...), times(-1, r...)), bag(times(math.MaxInt64, r...))},
		"several":       {bag(times(1, num(2)), times(-1, num(3)), times(4, num(1))), bag(times(4, num(1)), times(1, num(2)))},
		"of no columns": {bag(times(2)), bag(times(2))},
	} {
		comesTo(t, name, threshold(), r, x.rows, x.want, nil)
	}
	comesTo(t, "aggregations", api.Rel{Kind: api.RelThreshold, Aggs: []api.Agg{sum(fail(5))}, Limit: 1, Offset: 1}, r, bag(times(2, r...)), bag(times(2, r...)), nil)
}

// Data that may not be are no integers, wherever they look like some; which are null, their kind says.
func TestDataThatMayNotBe(t *testing.T) {
	odd := api.Datum{Kind: api.KindInt, Int: 5, Text: "x"}
	comesTo(t, "a number with a text", by(nil, sum(col(0))), nil, bag(times(1, odd)), nil, faults(fault(api.ErrExprType, 1)))
	comesTo(t, "no kind", by(nil, sum(col(0))), nil, bag(times(1, api.Datum{})), nil, faults(fault(api.ErrExprType, 1)))
	comesTo(t, "a null with a number", by(nil, countAll(), count(col(0)), sum(col(0))), nil, bag(times(1, api.Datum{Kind: api.KindNull, Int: 5})), bag(times(1, num(1), num(0), null())), nil)
	comesTo(t, "no kind, counted", by(nil, count(col(0))), nil, bag(times(3, api.Datum{})), bag(times(1, num(3))), nil)
	long := text(strings.Repeat("a", 1001))
	comesTo(t, "a long text", by(nil, greatest(col(0))), nil, bag(times(1, long)), bag(times(1, long)), nil)
	comesTo(t, "a long text at the top", top(nil, 1, 0, up(0)), nil, bag(times(1, long), times(1, text("b"))), bag(times(1, long)), nil)
	if datum.Check(odd) == api.OK || datum.Check(long) == api.OK {
		t.Error("these may be")
	}
}

// Group tells something even of what New refuses.
func TestGroupOfOtherSpecs(t *testing.T) {
	rows := bag(times(2, num(1)), times(1, num(2)))
	for _, spec := range []api.Rel{
		{}, {Kind: api.RelGet}, {Kind: 255}, by(nil, api.Agg{}), by(nil, api.Agg{Func: 6}), by(cols(-1, 99), api.Agg{Func: 255, Distinct: true, Expr: col(0)}),
		top(cols(-1), -2, 0), top(nil, math.MinInt, math.MinInt, up(-1)), top(nil, math.MaxInt, -5, down(1<<40)),
	} {
		reduce.Group(spec, nil, rows)
		reduce.Group(spec, nums(1), bag(times(-1, num(1)), times(math.MaxInt64, num(2)), times(math.MaxInt64, num(3))))
		reduce.Key(spec, nums(1))
	}
	order := slices.Repeat([]api.Sort{up(0)}, 100)
	comesTo(t, "a long order", top(nil, 1, 0, append(order, down(1))...), nil, bag(times(1, num(1), num(1)), times(1, num(1), num(2))), bag(times(1, num(1), num(2))), nil)
	if got := reduce.Key(top(make([]int, 100), 1, 0), nums(3)); len(got) != 100 || got[99] != num(3) {
		t.Errorf("%v", got)
	}
}
