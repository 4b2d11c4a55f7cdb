package row_test

import (
	"math"
	"math/rand"
	"slices"
	"strings"
	"testing"

	"penstock/api"
	"penstock/row"
)

func times(n int64, data ...api.Datum) api.Counted { return api.Counted{Row: data, Count: n} }

func sameBag(a, b []api.Counted) bool {
	return slices.EqualFunc(a, b, func(x, y api.Counted) bool { return x.Count == y.Count && same(x.Row, y.Row) })
}

// plainSum is what Sum answers, found by comparing each row with all before it.
func plainSum(l []api.Counted) []api.Counted {
	var out []api.Counted
	for _, c := range l {
		i := slices.IndexFunc(out, func(x api.Counted) bool { return row.Cmp(x.Row, c.Row) == 0 })
		if i < 0 {
			out = append(out, c)
		} else {
			out[i].Count += c.Count
		}
	}
	out = slices.DeleteFunc(out, func(c api.Counted) bool { return c.Count == 0 })
	slices.SortStableFunc(out, func(a, b api.Counted) int { return row.Cmp(a.Row, b.Row) })
	return out
}

func TestSum(t *testing.T) {
	five, six := api.Datum{Kind: 5}, api.Datum{Kind: 6}
	marked := api.Datum{Kind: api.KindInt, Int: 1, Bool: true, Text: "x"}
	long := text(strings.Repeat("\xff\x00", 2000))
	for name, x := range map[string]struct{ l, want []api.Counted }{
		"nothing":       {nil, nil},
		"the document":  {[]api.Counted{times(2, num(1)), times(1, num(2)), times(-1, num(1)), times(-1, num(2))}, []api.Counted{times(1, num(1))}},
		"order":         {[]api.Counted{times(1, num(2)), times(2, text("a")), times(3, num(1), null), times(4), times(5, num(1))}, []api.Counted{times(4), times(5, num(1)), times(3, num(1), null), times(1, num(2)), times(2, text("a"))}},
		"no columns":    {[]api.Counted{times(1), times(2), {Row: api.Row{}, Count: 4}}, []api.Counted{times(7)}},
		"zero":          {[]api.Counted{times(0, num(1)), times(0, num(1)), times(0)}, nil},
		"below zero":    {[]api.Counted{times(-1, num(1)), times(-2, num(1))}, []api.Counted{times(-3, num(1))}},
		"wraps round":   {[]api.Counted{times(math.MaxInt64, null), times(1, null)}, []api.Counted{times(math.MinInt64, null)}},
		"wraps to zero": {[]api.Counted{times(math.MinInt64, null), times(math.MinInt64, null)}, nil},
		"back again":    {[]api.Counted{times(1, null), times(-1, null), times(3, null)}, []api.Counted{times(3, null)}},
		"of no kind":    {[]api.Counted{times(1, five), times(2, six), times(4, api.Datum{}), times(8), times(16, five)}, []api.Counted{times(8), times(4, api.Datum{}), times(17, five), times(2, six)}},
		"no kind first": {[]api.Counted{times(1, five, null), times(2, null, five), times(4, five, five), times(8, five)}, []api.Counted{times(2, null, five), times(8, five), times(1, five, null), times(4, five, five)}},
		"the first one": {[]api.Counted{times(1, marked), times(1, num(1))}, []api.Counted{times(2, marked)}},
		"also if gone":  {[]api.Counted{times(1, num(1)), times(-1, marked), times(1, marked)}, []api.Counted{times(1, num(1))}},
		"of one kind":   {[]api.Counted{times(1, api.Datum{Kind: 9, Int: 3}), times(1, api.Datum{Kind: 9, Text: "a"})}, []api.Counted{times(2, api.Datum{Kind: 9, Int: 3})}},
		"texts":         {[]api.Counted{times(1, text("a"), text("b")), times(1, text("a\x00\x01@b")), times(1, text("ab"), text("")), times(1, text(""), text("ab"))}, []api.Counted{times(1, text(""), text("ab")), times(1, text("a"), text("b")), times(1, text("a\x00\x01@b")), times(1, text("ab"), text(""))}},
		"any bytes":     {[]api.Counted{times(1, long), times(1, text("\xff")), times(1, long)}, []api.Counted{times(1, text("\xff")), times(2, long)}},
		"many columns":  {[]api.Counted{{Row: slices.Repeat(of(null), 50), Count: 1}, {Row: slices.Repeat(of(null), 50), Count: 1}}, []api.Counted{{Row: slices.Repeat(of(null), 50), Count: 2}}},
	} {
		if got := row.Sum(x.l); !sameBag(got, x.want) {
			t.Errorf("%s: Sum(%v) = %v, want %v", name, x.l, got, x.want)
		}
	}
}

// someRows is rows of which many are equal, some invalid.
func someRows(r *rand.Rand, n int) []api.Counted {
	some := []api.Datum{null, no, yes, num(-1), num(0), num(256), text(""), text("\x00"), text("\x00\x01"), text("a"), text("\xff"), {}, {Kind: 5}, {Kind: 0x50}, {Kind: 0x10}}
	out := make([]api.Counted, n)
	for i := range out {
		for range r.Intn(4) {
			out[i].Row = append(out[i].Row, some[r.Intn(len(some))])
		}
		out[i].Count = int64(r.Intn(5) - 2)
	}
	return out
}

func TestSumDoesNotDependOnTheOrder(t *testing.T) {
	r := rand.New(rand.NewSource(2))
	for range 50 {
		l := someRows(r, r.Intn(400))
		want := plainSum(l)
		for range 3 {
			if got := row.Sum(l); !sameBag(got, want) {
				t.Fatalf("Sum(%v) = %v, want %v", l, got, want)
			}
			r.Shuffle(len(l), func(i, j int) { l[i], l[j] = l[j], l[i] })
		}
	}
}

func TestSumOfSums(t *testing.T) {
	r := rand.New(rand.NewSource(3))
	for range 50 {
		a, b := someRows(r, r.Intn(300)), someRows(r, r.Intn(300))
		both := row.Sum(slices.Concat(row.Sum(a), row.Sum(b)))
		if want := row.Sum(slices.Concat(a, b)); !sameBag(both, want) {
			t.Fatalf("%v, want %v", both, want)
		}
		for i, c := range both {
			if c.Count == 0 || i > 0 && row.Cmp(both[i-1].Row, c.Row) != -1 {
				t.Fatalf("row %d of %v", i, both)
			}
		}
	}
}

func TestSumIsNewMemory(t *testing.T) {
	shared := of(num(1), num(2), num(3))
	l := []api.Counted{{Row: shared[:2], Count: 1}, {Row: shared[1:], Count: 2}, {Row: shared[:2], Count: 3}, {Row: shared[:1], Count: 1}}
	first, second := row.Sum(l), row.Sum(l)
	for i := range first {
		first[i].Row[0] = null
		_ = append(first[i].Row, yes)
		first[i].Count = 9
	}
	if !same(shared, of(num(1), num(2), num(3))) {
		t.Error(shared)
	}
	want := []api.Counted{times(1, num(1)), times(4, num(1), num(2)), times(2, num(2), num(3))}
	if !sameBag(second, want) {
		t.Errorf("%v, want %v", second, want)
	}
	if l[0].Count != 1 || l[2].Count != 3 || len(l[3].Row) != 1 {
		t.Error(l)
	}
}

// Behind the end of a list stand rows that Sum is not to see.
func TestSumEndsWithItsArgument(t *testing.T) {
	l := []api.Counted{times(1, num(1)), times(1, num(2))}
	if got := row.Sum(l[:1]); !sameBag(got, []api.Counted{times(1, num(1))}) || l[1].Count != 1 {
		t.Error(got, l)
	}
}
