package join_test

import (
	"math"
	"slices"
	"strings"
	"testing"

	"penstock/api"
	"penstock/join"
)

func num(n int64) api.Datum { return api.Datum{Kind: api.KindInt, Int: n} }

func text(s string) api.Datum { return api.Datum{Kind: api.KindText, Text: s} }

func truth(b bool) api.Datum { return api.Datum{Kind: api.KindBool, Bool: b} }

func null() api.Datum { return api.Datum{Kind: api.KindNull} }

func at(epoch uint64, loops ...uint32) api.Time { return api.Time{Epoch: epoch, Loops: loops} }

func list(l ...api.Time) []api.Time { return l }

func cols(l ...int) []int { return l }

// of is an update of the row of some data.
func of(t api.Time, diff int64, data ...api.Datum) api.Update {
	return api.Update{Row: data, Time: t, Diff: diff}
}

// up is an update of the row of some numbers, of an epoch.
func up(epoch uint64, diff int64, l ...int64) api.Update {
	return of(at(epoch), diff, nums(l...)...)
}

func nums(l ...int64) api.Row {
	var out api.Row
	for _, n := range l {
		out = append(out, num(n))
	}
	return out
}

// once is rows, each of them at 1, once.
func once(rows ...api.Row) []api.Update {
	var out []api.Update
	for _, r := range rows {
		out = append(out, of(at(1), 1, r...))
	}
	return out
}

func updates(l ...api.Update) []api.Update { return l }

func sameTime(a, b api.Time) bool { return a.Epoch == b.Epoch && slices.Equal(a.Loops, b.Loops) }

func sameUpdates(a, b []api.Update) bool {
	return slices.EqualFunc(a, b, func(x, y api.Update) bool {
		return x.Diff == y.Diff && sameTime(x.Time, y.Time) && slices.Equal(x.Row, y.Row)
	})
}

func by(t *testing.T, left, right []int) *join.Join {
	t.Helper()
	j, e := join.New(left, right)
	if e != api.OK || j == nil {
		t.Fatalf("New(%v, %v) = %v, %v", left, right, j, e)
	}
	return j
}

// pushes says what Push should answer.
func pushes(t *testing.T, j *join.Join, left, right []api.Update, want ...api.Update) {
	t.Helper()
	if got := j.Push(left, right); !sameUpdates(got, want) {
		t.Errorf("Push(%v, %v) = %v, want %v", left, right, got, want)
	}
}

func has(t *testing.T, j *join.Join, want int) {
	t.Helper()
	if got := j.Len(); got != want {
		t.Errorf("Len() = %d, want %d", got, want)
	}
}

func TestExamplesOfTheDocument(t *testing.T) {
	j := by(t, cols(0), cols(0))
	pushes(t, j, updates(of(at(2), 1, num(1), text("a"))), nil)
	pushes(t, j, nil, updates(of(at(3), 2, num(1), text("b")), of(at(1), 1, num(2), text("c"))), of(at(3), 2, num(1), text("a"), num(1), text("b")))
	pushes(t, j, updates(of(at(5), -1, num(2), text("d"))), nil, of(at(5), -1, num(2), text("d"), num(2), text("c")))
	has(t, j, 4)
	all := by(t, nil, nil)
	pushes(t, all, updates(up(1, 1, 1), up(2, 1, 2)), updates(up(3, 1, 3), up(0, 1, 4)), up(3, 1, 1, 3), up(1, 1, 1, 4), up(3, 1, 2, 3), up(2, 1, 2, 4))
	if j, e := join.New(cols(0, 1), cols(0)); j != nil || e != api.ErrJoinForm {
		t.Errorf("New of 2 columns and 1 is %v, %v", j, e)
	}
}

func TestNewRefuses(t *testing.T) {
	full := slices.Repeat(cols(31), api.MaxColumns)
	for name, x := range map[string]struct {
		left, right []int
		want        api.Errno
	}{
		"no columns":        {nil, cols(), api.OK},
		"some columns":      {cols(0, 31, 5), cols(31, 0, 5), api.OK},
		"a column twice":    {cols(0, 0), cols(1, 2), api.OK},
		"all columns":       {full, full, api.OK},
		"more on the left":  {cols(0), nil, api.ErrJoinForm},
		"more on the right": {nil, cols(0), api.ErrJoinForm},
		"too many":          {append(cols(0), full...), append(cols(0), full...), api.ErrJoinForm},
		"below 0, left":     {cols(0, -1), cols(0, 0), api.ErrJoinForm},
		"below 0, right":    {cols(0, 0), cols(-1, 0), api.ErrJoinForm},
		"above 31, left":    {cols(32), cols(31), api.ErrJoinForm},
		"above 31, right":   {cols(31), cols(32), api.ErrJoinForm},
		"far out":           {cols(math.MinInt), cols(math.MaxInt), api.ErrJoinForm},
	} {
		if j, e := join.New(x.left, x.right); e != x.want || (j == nil) != (e != api.OK) {
			t.Errorf("%s: New(%v, %v) = %v, %v, want %v", name, x.left, x.right, j, e, x.want)
		}
	}
}

func TestNewIsEmpty(t *testing.T) {
	j := by(t, cols(0), cols(0))
	has(t, j, 0)
	pushes(t, j, nil, nil)
	pushes(t, j, updates(), updates())
	j.Compact(nil)
	j.Compact(list(at(3), at(3, 1)))
	has(t, j, 0)
}

// Two rows, each of them at 1, once, come to both side by side, if they match; whichever comes first.
func TestWhatMatches(t *testing.T) {
	wide := nums(make([]int64, api.MaxColumns)...)
	wide[31] = text("x")
	for name, x := range map[string]struct {
		left, right []int
		a, b        api.Row
		want        bool
	}{
		"equal numbers":           {cols(0), cols(0), nums(7), nums(7), true},
		"other numbers":           {cols(0), cols(0), nums(7), nums(8), false},
		"its negative":            {cols(0), cols(0), nums(7), nums(-7), false},
		"least numbers":           {cols(0), cols(0), nums(math.MinInt64), nums(math.MinInt64), true},
		"other columns":           {cols(1), cols(0), nums(5, 7), nums(7, 6), true},
		"the columns of the left": {cols(1), cols(0), nums(7, 5), nums(7, 6), false},
		"several":                 {cols(0, 1), cols(1, 0), nums(1, 2), nums(2, 1), true},
		"several, in order":       {cols(0, 1), cols(0, 1), nums(1, 2), nums(2, 1), false},
		"the last one differs":    {cols(0, 1, 2), cols(0, 1, 2), nums(1, 2, 3), nums(1, 2, 4), false},
		"the first one differs":   {cols(0, 1, 2), cols(0, 1, 2), nums(0, 2, 3), nums(1, 2, 3), false},
		"twice the same column":   {cols(0, 0), cols(0, 1), nums(4), nums(4, 4), true},
		"twice, one differs":      {cols(0, 0), cols(0, 1), nums(4), nums(4, 5), false},
		"null and null":           {cols(0), cols(0), api.Row{null()}, api.Row{null()}, true},
		"null and another":        {cols(0), cols(0), api.Row{null()}, nums(0), false},
		"null and its text":       {cols(0), cols(0), api.Row{null()}, api.Row{text("null")}, false},
		"true and true":           {cols(0), cols(0), api.Row{truth(true)}, api.Row{truth(true)}, true},
		"true and false":          {cols(0), cols(0), api.Row{truth(true)}, api.Row{truth(false)}, false},
		"equal texts":             {cols(0), cols(0), api.Row{text("it's\n\x00é")}, api.Row{text("it's\n\x00é")}, true},
		"other texts":             {cols(0), cols(0), api.Row{text("a")}, api.Row{text("A")}, false},
		"a text and its escape":   {cols(0), cols(0), api.Row{text("\n")}, api.Row{text(`\n`)}, false},
		"empty texts":             {cols(0), cols(0), api.Row{text("")}, api.Row{text("")}, true},
		"a number and its text":   {cols(0), cols(0), nums(1), api.Row{text("1")}, false},
		"a text with a comma":     {cols(0, 1), cols(0, 1), api.Row{text("a', 'b"), text("c")}, api.Row{text("a"), text("b', 'c")}, false},
		"long texts":              {cols(0), cols(0), api.Row{text(strings.Repeat("a", 1000))}, api.Row{text(strings.Repeat("a", 1000))}, true},
		"long texts that differ":  {cols(0), cols(0), api.Row{text(strings.Repeat("a", 999) + "b")}, api.Row{text(strings.Repeat("a", 999) + "c")}, false},
		"the last column":         {cols(31), cols(0), wide, api.Row{text("x")}, true},
		"no columns":              {nil, nil, nums(1), nums(2), true},
		"rows without columns":    {nil, nil, nil, nil, true},
		"one without columns":     {nil, nil, nums(1), nil, true},
		"the left one lacks it":   {cols(1), cols(0), nums(1), nums(1), false},
		"the right one lacks it":  {cols(0), cols(1), nums(1), nums(1), false},
		"both lack it":            {cols(1), cols(1), nums(1), nums(1), false},
		"null and none":           {cols(0), cols(0), api.Row{null()}, nil, false},
		"one of several lacks":    {cols(0, 1), cols(0, 1), nums(1), nums(1), false},
	} {
		var want []api.Update
		if x.want {
			want = once(slices.Concat(x.a, x.b))
		}
		together, leftFirst, rightFirst := by(t, x.left, x.right), by(t, x.left, x.right), by(t, x.left, x.right)
		leftFirst.Push(once(x.a), nil)
		rightFirst.Push(nil, once(x.b))
		for how, got := range map[string][]api.Update{
			"together": together.Push(once(x.a), once(x.b)), "left first": leftFirst.Push(nil, once(x.b)), "right first": rightFirst.Push(once(x.a), nil),
		} {
			if !sameUpdates(got, want) {
				t.Errorf("%s, %s: %v, want %v", name, how, got, want)
			}
		}
		has(t, together, 2)
		has(t, leftFirst, 2)
		has(t, rightFirst, 2)
	}
}

func TestTimesAndDiffs(t *testing.T) {
	for name, x := range map[string]struct {
		left, right api.Update
		want        []api.Update
	}{
		"the later one":     {up(2, 3, 1), up(5, 7, 1), updates(up(5, 21, 1, 1))},
		"the earlier one":   {up(5, -3, 1), up(2, 7, 1), updates(up(5, -21, 1, 1))},
		"both below 0":      {up(0, -3, 1), up(0, -7, 1), updates(up(0, 21, 1, 1))},
		"each counter":      {of(at(2, 9, 1), 1, num(1)), of(at(1, 3, 4), 1, num(1)), updates(of(at(2, 9, 4), 1, num(1), num(1)))},
		"three loops":       {of(at(1, 1, 2, 3), 1, num(1)), of(at(1, 3, 2, 1), 1, num(1)), updates(of(at(1, 3, 2, 3), 1, num(1), num(1)))},
		"greatest times":    {of(at(math.MaxUint64, 0), 1, num(1)), of(at(0, math.MaxUint32), 1, num(1)), updates(of(at(math.MaxUint64, math.MaxUint32), 1, num(1), num(1)))},
		"other depths":      {of(at(1, 0), 1, num(1)), up(1, 1, 1), nil},
		"other depths, too": {of(at(1, 0), 1, num(1)), of(at(1, 0, 0), 1, num(1)), nil},
		"a product wraps":   {up(1, math.MinInt64, 1), up(1, 3, 1), updates(up(1, math.MinInt64, 1, 1))},
		"the least, turned": {up(1, math.MinInt64, 1), up(1, -1, 1), updates(up(1, math.MinInt64, 1, 1))},
		"a great product":   {up(1, 1<<62, 1), up(1, 2, 1), updates(up(1, math.MinInt64, 1, 1))},
		"a product of 0":    {up(1, 1<<32, 1), up(1, 1<<32, 1), nil},
		"a Diff of 0":       {up(1, 0, 1), up(1, 1, 1), nil},
	} {
		j := by(t, cols(0), cols(0))
		if got := j.Push(updates(x.left), updates(x.right)); !sameUpdates(got, x.want) {
			t.Errorf("%s: together %v, want %v", name, got, x.want)
		}
		j = by(t, cols(0), cols(0))
		if got := j.Push(nil, updates(x.right)); len(got) > 0 {
			t.Errorf("%s: %v comes of the right one alone", name, got)
		}
		if got := j.Push(updates(x.left), nil); !sameUpdates(got, x.want) {
			t.Errorf("%s: right first %v, want %v", name, got, x.want)
		}
	}
}

// Only the pairs of which one is new are told: previous ones with each other are not told again.
func TestEachPairIsToldOnce(t *testing.T) {
	j := by(t, cols(0), cols(0))
	pushes(t, j, updates(up(1, 1, 1, 10)), updates(up(1, 1, 1, 20)), up(1, 1, 1, 10, 1, 20))
	pushes(t, j, nil, nil)
	pushes(t, j, updates(up(2, 1, 1, 11)), nil, up(2, 1, 1, 11, 1, 20))
	pushes(t, j, nil, updates(up(3, 1, 1, 21)), up(3, 1, 1, 10, 1, 21), up(3, 1, 1, 11, 1, 21))
	pushes(t, j, updates(up(4, 1, 1, 12)), updates(up(4, 1, 1, 22)),
		up(4, 1, 1, 10, 1, 22), up(4, 1, 1, 11, 1, 22), up(4, 1, 1, 12, 1, 20), up(4, 1, 1, 12, 1, 21), up(4, 1, 1, 12, 1, 22))
	has(t, j, 6)
	pushes(t, j, updates(up(1, 1, 1, 10)), nil, up(1, 1, 1, 10, 1, 20), up(3, 1, 1, 10, 1, 21), up(4, 1, 1, 10, 1, 22))
	has(t, j, 6)
	pushes(t, j, updates(up(1, -2, 1, 10)), nil, up(1, -2, 1, 10, 1, 20), up(3, -2, 1, 10, 1, 21), up(4, -2, 1, 10, 1, 22))
	has(t, j, 5)
	pushes(t, j, nil, updates(up(9, 1, 1, 29)), up(9, 1, 1, 11, 1, 29), up(9, 1, 1, 12, 1, 29))
	pushes(t, j, nil, updates(up(9, 1, 2, 29)))
	has(t, j, 7)
}

// What is answered is in the form of delta.Sum: rows in order, then times, none of them twice, and none with the Diff 0.
func TestResultsAreSums(t *testing.T) {
	j := by(t, nil, nil)
	left := updates(up(2, 1, 5), up(1, 1, 5), of(at(0, 1), 1, num(5)), up(2, 1, 4), up(3, 1, 4), up(3, -1, 4), up(1, 1, 5))
	right := updates(of(at(0, 1), 1, num(0)), up(0, 1, 9), up(2, -1, 0), up(2, 1, 0), up(1, 3, 0))
	pushes(t, j, left, right,
		up(2, 3, 4, 0), up(2, 1, 4, 9),
		up(1, 6, 5, 0), up(2, 3, 5, 0), of(at(0, 1), 1, num(5), num(0)), up(1, 2, 5, 9), up(2, 1, 5, 9))
	has(t, j, 4+3)
	j = by(t, nil, nil)
	pushes(t, j, updates(up(1, 1, 5), up(2, -1, 5)), updates(up(3, 1, 6)))
	has(t, j, 3)
	pushes(t, j, updates(up(1, 1, 5), up(1, -1, 5)), updates(up(1, 0, 6), up(4, 5, 6), up(4, -5, 6)))
	has(t, j, 3)
}

// Two pairs whose rows, side by side, are the same, are one.
func TestOneCombinationOfTwoPairs(t *testing.T) {
	j := by(t, nil, nil)
	pushes(t, j, updates(up(1, 2, 1), up(1, 3, 1, 2)), updates(up(1, 5, 2, 3), up(1, 7, 3)),
		up(1, 15, 1, 2, 2, 3), up(1, 10+21, 1, 2, 3), up(1, 14, 1, 3))
}

// Rows that lack a column are there, though nothing matches them, and are combined like others.
func TestRowsThatLackAColumn(t *testing.T) {
	j := by(t, cols(1), cols(2))
	pushes(t, j, updates(up(1, 1, 7), up(1, 1, 7), up(2, 1), up(1, 1, 7, 8)), updates(up(1, 1, 7, 8), up(1, 1)))
	has(t, j, 5)
	pushes(t, j, updates(up(2, -1), up(2, 1, 7)), updates(up(3, 1, 0, 0, 8)), up(3, 1, 7, 8, 0, 0, 8))
	has(t, j, 6)
	j.Compact(list(at(2)))
	has(t, j, 5)
	pushes(t, j, updates(up(2, -3, 7)), nil)
	has(t, j, 4)
}

// Rows come to have more columns than a table has, and are combined all the same.
func TestLongRows(t *testing.T) {
	j := by(t, cols(31), cols(0))
	long := slices.Repeat(nums(1), 60)
	pushes(t, j, updates(of(at(1), 1, long...), of(at(1), 1, long[:59]...)), nil)
	pushes(t, j, updates(of(at(1), 1, long...)), nil)
	has(t, j, 2)
	pushes(t, j, nil, updates(of(at(2), 1, long...)), of(at(2), 1, slices.Repeat(nums(1), 119)...), of(at(2), 2, slices.Repeat(nums(1), 120)...))
	pushes(t, j, updates(of(at(1), -2, long...)), nil, of(at(2), -2, slices.Repeat(nums(1), 120)...))
	has(t, j, 2)
}

func TestCompact(t *testing.T) {
	j := by(t, cols(0), cols(0))
	j.Push(updates(up(1, 1, 1), up(2, 1, 1), up(7, 1, 1), up(3, 1, 2), up(4, -1, 2)), updates(up(0, 5, 3), up(5, -5, 3), up(6, 1, 3)))
	has(t, j, 8)
	j.Compact(nil)
	has(t, j, 8)
	j.Compact(list(at(9, 9)))
	has(t, j, 8)
	j.Compact(list(at(2)))
	has(t, j, 7)
	j.Compact(list(at(5)))
	has(t, j, 3)
	pushes(t, j, nil, updates(up(3, 1, 1), up(8, 10, 1), up(9, 1, 2)), up(5, 2, 1, 1), up(7, 1, 1, 1), up(8, 30, 1, 1))
	has(t, j, 6)
	pushes(t, j, updates(up(2, 1, 3)), nil, up(6, 1, 3, 3))
	has(t, j, 7)
	j.Compact(list(at(9)))
	has(t, j, 5)
	j.Compact(list(at(1)))
	has(t, j, 5)
	pushes(t, j, updates(up(0, 1, 1)), nil, up(9, 11, 1, 1))
}

// Each depth is compacted by the times of since that have it; others are as they were.
func TestCompactByDepths(t *testing.T) {
	epoch, inner := up(1, 1, 1), of(at(1, 1, 1), 1, num(1))
	loop := updates(of(at(1, 1), 1, num(1)), of(at(1, 2), 1, num(1)), of(at(2, 1), 1, num(1)))
	as := func(first api.Update, loop []api.Update, last api.Update) []api.Update {
		return slices.Concat(updates(first), loop, updates(last))
	}
	for name, x := range map[string]struct {
		since []api.Time
		want  []api.Update
	}{
		"nothing":    {nil, as(epoch, loop, inner)},
		"epochs":     {list(at(4)), as(up(4, 1, 1), loop, inner)},
		"one time":   {list(at(2, 2)), as(epoch, updates(of(at(2, 2), 3, num(1))), inner)},
		"all edges":  {list(at(2, 0), at(0, 2)), as(epoch, loop, inner)},
		"a corner":   {list(at(3, 2), at(2, 3)), as(epoch, updates(of(at(2, 2), 3, num(1))), inner)},
		"two times":  {list(at(3, 2), at(1, 3)), as(epoch, updates(of(at(1, 2), 2, num(1)), of(at(2, 2), 1, num(1))), inner)},
		"two loops":  {list(at(0, 7, 8)), as(epoch, loop, of(at(1, 7, 8), 1, num(1)))},
		"all depths": {list(at(0, 7, 8), at(3, 2), at(1, 3), at(6)), as(up(6, 1, 1), updates(of(at(1, 2), 2, num(1)), of(at(2, 2), 1, num(1))), of(at(1, 7, 8), 1, num(1)))},
		"no depth":   {list(at(9, 9, 9, 9)), as(epoch, loop, inner)},
	} {
		left, right := by(t, nil, nil), by(t, nil, nil)
		left.Push(as(epoch, loop, inner), nil)
		right.Push(nil, as(epoch, loop, inner))
		left.Compact(x.since)
		right.Compact(x.since)
		has(t, left, len(x.want))
		has(t, right, len(x.want))
		all := updates(of(at(0), 1), of(at(0, 0), 1), of(at(0, 0, 0), 1))
		if got := left.Push(nil, all); !sameUpdates(got, x.want) {
			t.Errorf("%s: %v, want %v", name, got, x.want)
		}
		if got := right.Push(all, nil); !sameUpdates(got, x.want) {
			t.Errorf("%s, on the right: %v, want %v", name, got, x.want)
		}
	}
}

// Objects are independent of one another.
func TestJoinsAreIndependent(t *testing.T) {
	a, b := by(t, cols(0), cols(0)), by(t, cols(0), cols(0))
	pushes(t, a, once(nums(1)), nil)
	pushes(t, b, nil, once(nums(1)))
	has(t, a, 1)
	has(t, b, 1)
	a.Compact(list(at(9)))
	pushes(t, a, nil, once(nums(1)), up(9, 1, 1, 1))
	pushes(t, b, once(nums(1)), nil, up(1, 1, 1, 1))
}

// Rows that may not be harm nobody.
func TestRowsThatMayNotBe(t *testing.T) {
	j := by(t, cols(0), cols(0))
	bad := []api.Datum{{}, {Kind: 9}, {Kind: api.KindNull, Int: 1}, text("\xff"), text(strings.Repeat("a", 1001))}
	for _, d := range bad {
		j.Push(once(api.Row{d}, api.Row{num(1), d}), once(api.Row{d}))
	}
	j.Compact(list(at(2)))
	if got := j.Push(nil, once(nums(1))); len(got) != len(bad) {
		t.Errorf("%v", got)
	}
	if got := j.Push(once(nums(1)), nil); !sameUpdates(got, updates(up(1, 1, 1, 1))) {
		t.Errorf("%v", got)
	}
}
