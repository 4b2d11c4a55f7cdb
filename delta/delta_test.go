package delta_test

import (
	"math"
	"slices"
	"strings"
	"testing"

	"penstock/api"
	"penstock/delta"
)

func num(n int64) api.Datum { return api.Datum{Kind: api.KindInt, Int: n} }

func text(s string) api.Datum { return api.Datum{Kind: api.KindText, Text: s} }

func truth(b bool) api.Datum { return api.Datum{Kind: api.KindBool, Bool: b} }

func null() api.Datum { return api.Datum{Kind: api.KindNull} }

func at(epoch uint64, loops ...uint32) api.Time { return api.Time{Epoch: epoch, Loops: loops} }

func update(diff int64, t api.Time, data ...api.Datum) api.Update {
	return api.Update{Row: data, Time: t, Diff: diff}
}

func updates(l ...api.Update) []api.Update { return l }

func counted(n int64, data ...api.Datum) api.Counted { return api.Counted{Row: data, Count: n} }

func bag(l ...api.Counted) []api.Counted { return l }

func list(l ...api.Time) []api.Time { return l }

func sameTime(a, b api.Time) bool { return a.Epoch == b.Epoch && slices.Equal(a.Loops, b.Loops) }

func sameTimes(a, b []api.Time) bool { return slices.EqualFunc(a, b, sameTime) }

func sameUpdates(a, b []api.Update) bool {
	return slices.EqualFunc(a, b, func(x, y api.Update) bool {
		return x.Diff == y.Diff && sameTime(x.Time, y.Time) && slices.Equal(x.Row, y.Row)
	})
}

func sameBag(a, b []api.Counted) bool {
	return slices.EqualFunc(a, b, func(x, y api.Counted) bool { return x.Count == y.Count && slices.Equal(x.Row, y.Row) })
}

// example is that of the document.
func example() []api.Update {
	return updates(update(1, at(2), num(1)), update(-1, at(5), num(0)), update(1, at(2), num(1)), update(1, at(3), num(2)), update(-1, at(3), num(2)))
}

func TestSum(t *testing.T) {
	five, six := api.Datum{Kind: 5}, api.Datum{Kind: 6}
	marked := api.Datum{Kind: api.KindInt, Int: 1, Bool: true, Text: "x"}
	long := text(strings.Repeat("\xff\x00", 2000))
	wide := slices.Repeat([]api.Datum{null()}, 50)
	for name, x := range map[string]struct{ l, want []api.Update }{
		"nothing":       {nil, nil},
		"the document":  {example(), updates(update(-1, at(5), num(0)), update(2, at(2), num(1)))},
		"rows first":    {updates(update(1, at(9), num(1)), update(2, at(1), num(2)), update(3, at(2), num(1))), updates(update(3, at(2), num(1)), update(1, at(9), num(1)), update(2, at(1), num(2)))},
		"rows in order": {updates(update(1, at(0), text("a")), update(2, at(0), num(5)), update(3, at(0), num(5), null()), update(4, at(0)), update(5, at(0), truth(true)), update(6, at(0), truth(false)), update(7, at(0), null())), updates(update(4, at(0)), update(7, at(0), null()), update(6, at(0), truth(false)), update(5, at(0), truth(true)), update(2, at(0), num(5)), update(3, at(0), num(5), null()), update(1, at(0), text("a")))},
		"times in order": {updates(update(1, at(0, 0)), update(2, at(0, 0, 0)), update(3, at(2, 1)), update(4, at(1, 2)), update(5, at(9)), update(6, at(2, 0))),
			updates(update(5, at(9)), update(1, at(0, 0)), update(4, at(1, 2)), update(6, at(2, 0)), update(3, at(2, 1)), update(2, at(0, 0, 0)))},
		"times apart":     {updates(update(1, at(1)), update(1, at(1, 0)), update(1, at(1, 0, 0)), update(1, at(10)), update(1, at(1, 10)), update(1, at(11, 0))), updates(update(1, at(1)), update(1, at(10)), update(1, at(1, 0)), update(1, at(1, 10)), update(1, at(11, 0)), update(1, at(1, 0, 0)))},
		"greatest":        {updates(update(1, at(math.MaxUint64, math.MaxUint32)), update(2, at(math.MaxUint64, math.MaxUint32)), update(1, at(math.MaxInt64, 1)), update(4, at(math.MaxUint64, math.MaxUint32-1))), updates(update(1, at(math.MaxInt64, 1)), update(4, at(math.MaxUint64, math.MaxUint32-1)), update(3, at(math.MaxUint64, math.MaxUint32)))},
		"many counters":   {updates(update(1, at(1, 1, 2, 3, 4, 5)), update(2, at(1, 1, 2, 3, 4, 5)), update(2, at(1, 1, 2, 3, 4))), updates(update(2, at(1, 1, 2, 3, 4)), update(3, at(1, 1, 2, 3, 4, 5)))},
		"no columns":      {updates(update(1, at(1)), api.Update{Row: api.Row{}, Time: api.Time{Epoch: 1, Loops: []uint32{}}, Diff: 2}), updates(update(3, at(1)))},
		"zero":            {updates(update(0, at(1), num(1)), update(0, at(1), num(1)), update(0, at(2))), nil},
		"at one alone":    {updates(update(1, at(1), num(1)), update(-1, at(2), num(1))), updates(update(1, at(1), num(1)), update(-1, at(2), num(1)))},
		"wraps round":     {updates(update(math.MaxInt64, at(1)), update(1, at(1))), updates(update(math.MinInt64, at(1)))},
		"wraps to zero":   {updates(update(math.MinInt64, at(1)), update(math.MinInt64, at(1))), nil},
		"back again":      {updates(update(1, at(1)), update(-1, at(1)), update(3, at(1))), updates(update(3, at(1)))},
		"of no kind":      {updates(update(1, at(1), five), update(2, at(1), six), update(4, at(1), api.Datum{}), update(8, at(1)), update(16, at(1), five)), updates(update(8, at(1)), update(4, at(1), api.Datum{}), update(17, at(1), five), update(2, at(1), six))},
		"one such kind":   {updates(update(1, at(1), api.Datum{Kind: 9, Int: 3}), update(1, at(1), api.Datum{Kind: 9, Text: "a"})), updates(update(2, at(1), api.Datum{Kind: 9, Int: 3}))},
		"the first one":   {updates(update(1, at(1), marked), update(1, at(1), num(1)), update(1, at(2), num(1)), update(1, at(2), marked)), updates(update(2, at(1), marked), update(2, at(2), num(1)))},
		"also if gone":    {updates(update(1, at(1), num(1)), update(-1, at(1), marked), update(1, at(1), marked)), updates(update(1, at(1), num(1)))},
		"also if zero":    {updates(update(0, at(1), num(1)), update(1, at(1), marked)), updates(update(1, at(1), num(1)))},
		"texts":           {updates(update(1, at(1), text("a"), text("b")), update(1, at(1), text("a\x041 b")), update(1, at(1), text("ab"), text("")), update(1, at(1), text(""), text("ab"))), updates(update(1, at(1), text(""), text("ab")), update(1, at(1), text("a"), text("b")), update(1, at(1), text("a\x041 b")), update(1, at(1), text("ab"), text("")))},
		"numbers":         {updates(update(1, at(1), num(1), num(2)), update(1, at(1), num(12)), update(1, at(1), num(-1)), update(1, at(1), truth(true)), update(1, at(1), null(), num(1))), updates(update(1, at(1), null(), num(1)), update(1, at(1), truth(true)), update(1, at(1), num(-1)), update(1, at(1), num(1), num(2)), update(1, at(1), num(12)))},
		"texts within":    {updates(update(1, at(1), text("a\x04b")), update(1, at(1), text("a"), text("b")), update(1, at(1), text("a\x01")), update(1, at(1), text("a"), null())), updates(update(1, at(1), text("a"), null()), update(1, at(1), text("a"), text("b")), update(1, at(1), text("a\x01")), update(1, at(1), text("a\x04b")))},
		"kinds of digits": {updates(update(1, at(1), num(12)), update(1, at(1), num(1), api.Datum{Kind: '2'})), updates(update(1, at(1), num(1), api.Datum{Kind: '2'}), update(1, at(1), num(12)))},
		"kinds of texts":  {updates(update(1, at(1), text("12")), update(1, at(1), text("1"), api.Datum{Kind: '2'})), updates(update(1, at(1), text("1"), api.Datum{Kind: '2'}), update(1, at(1), text("12")))},
		"any bytes":       {updates(update(1, at(1), long), update(1, at(1), text("\xff")), update(1, at(1), long)), updates(update(1, at(1), text("\xff")), update(2, at(1), long))},
		"many columns":    {updates(update(1, at(1), wide...), update(1, at(1), wide...), update(1, at(1), wide[1:]...)), updates(update(1, at(1), wide[1:]...), update(2, at(1), wide...))},
	} {
		if got := delta.Sum(x.l); !sameUpdates(got, x.want) {
			t.Errorf("%s: Sum(%v) = %v, want %v", name, x.l, got, x.want)
		}
	}
}

func TestAt(t *testing.T) {
	marked := api.Datum{Kind: api.KindInt, Int: 1, Bool: true}
	inLoops := updates(update(1, at(2, 3), num(1)), update(2, at(3, 2), num(1)), update(4, at(2), num(1)), update(8, at(2, 3, 0), num(1)), update(16, at(2, 3), num(0)))
	for _, x := range []struct {
		l    []api.Update
		t    api.Time
		want []api.Counted
	}{
		{nil, at(5), nil},
		{example(), at(1), nil},
		{example(), at(2), bag(counted(2, num(1)))},
		{example(), at(4), bag(counted(2, num(1)))},
		{example(), at(5), bag(counted(-1, num(0)), counted(2, num(1)))},
		{example(), at(math.MaxUint64), bag(counted(-1, num(0)), counted(2, num(1)))},
		{example(), at(9, 0), nil},
		{inLoops, at(2, 3), bag(counted(16, num(0)), counted(1, num(1)))},
		{inLoops, at(3, 2), bag(counted(2, num(1)))},
		{inLoops, at(2, 2), nil},
		{inLoops, at(3, 3), bag(counted(16, num(0)), counted(3, num(1)))},
		{inLoops, at(2), bag(counted(4, num(1)))},
		{inLoops, at(2, 3, 0), bag(counted(8, num(1)))},
		{inLoops, at(2, 3, 0, 0), nil},
		{updates(update(math.MaxInt64, at(0)), update(1, at(1))), at(1), bag(counted(math.MinInt64))},
		{updates(update(1, at(0), num(1)), update(-1, at(1), num(1))), at(1), nil},
		{updates(update(1, at(3), num(1)), update(1, at(2), marked), update(1, at(1), num(1))), at(2), bag(counted(2, marked))},
		{updates(update(2, at(1), api.Datum{Kind: 7}), update(0, at(1), num(3))), at(1), bag(counted(2, api.Datum{Kind: 7}))},
	} {
		if got := delta.At(x.l, x.t); !sameBag(got, x.want) {
			t.Errorf("At(%v, %v) = %v, want %v", x.l, x.t, got, x.want)
		}
	}
}

func TestAdvance(t *testing.T) {
	inLoops := updates(update(1, at(1, 1), num(1)), update(2, at(2, 5), num(1)), update(4, at(0, 7), num(1)), update(8, at(2), num(1)), update(16, at(1), num(1)))
	for _, x := range []struct {
		l     []api.Update
		since []api.Time
		want  []api.Update
	}{
		{nil, list(at(4)), nil},
		{example(), list(at(4)), updates(update(-1, at(5), num(0)), update(2, at(4), num(1)))},
		{example(), nil, updates(update(-1, at(5), num(0)), update(2, at(2), num(1)))},
		{example(), list(at(9, 9)), updates(update(-1, at(5), num(0)), update(2, at(2), num(1)))},
		{example(), list(at(7)), updates(update(-1, at(7), num(0)), update(2, at(7), num(1)))},
		{inLoops, list(at(2, 5)), updates(update(16, at(1), num(1)), update(8, at(2), num(1)), update(3, at(2, 5), num(1)), update(4, at(2, 7), num(1)))},
		{inLoops, list(at(1, 6), at(3, 2)), updates(update(16, at(1), num(1)), update(8, at(2), num(1)), update(1, at(1, 2), num(1)), update(4, at(1, 7), num(1)), update(2, at(2, 5), num(1)))},
		{inLoops, list(at(3, 2), at(3)), updates(update(24, at(3), num(1)), update(1, at(3, 2), num(1)), update(2, at(3, 5), num(1)), update(4, at(3, 7), num(1)))},
		{updates(update(1, at(1), num(1)), update(-1, at(2), num(1)), update(1, at(3), num(1))), list(at(2)), updates(update(1, at(3), num(1)))},
		{updates(update(math.MaxInt64, at(1)), update(math.MaxInt64, at(2)), update(2, at(0))), list(at(2)), nil},
	} {
		if got := delta.Advance(x.l, x.since); !sameUpdates(got, x.want) {
			t.Errorf("Advance(%v, %v) = %v, want %v", x.l, x.since, got, x.want)
		}
	}
}
