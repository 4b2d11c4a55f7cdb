package row_test

import (
	"hash/fnv"
	"math"
	"reflect"
	"slices"
	"strings"
	"testing"
	"unsafe"

	"penstock/api"
	"penstock/row"
)

func num(n int64) api.Datum { return api.Datum{Kind: api.KindInt, Int: n} }

func text(s string) api.Datum { return api.Datum{Kind: api.KindText, Text: s} }

func of(data ...api.Datum) api.Row { return data }

var (
	null = api.Datum{Kind: api.KindNull}
	yes  = api.Datum{Kind: api.KindBool, Bool: true}
	no   = api.Datum{Kind: api.KindBool}
)

// data is valid data, each less than the one behind it.
func data() []api.Datum {
	return []api.Datum{
		null, no, yes,
		num(math.MinInt64), num(math.MinInt64 + 1), num(-257), num(-256), num(-1), num(0), num(1), num(255), num(256), num(1 << 32), num(math.MaxInt64),
		text(""), text("\x00"), text("\x00\x00"), text("\x00\x01"), text("\x00\x01\x10"), text("\x00\x7f"), text("\x01"), text("'"), text("', '"),
		text("(1)"), text(", "), text("\\"), text("a"), text("a\x00"), text("a\x00\x01@b"), text("a\x01"), text("ab"), text("é"), text("😀"),
	}
}

// rows is all valid rows of at most two of data, and a few long ones at the end, each less than the one behind it.
func rows() []api.Row {
	out := []api.Row{nil}
	for _, a := range data() {
		out = append(out, of(a))
		for _, b := range data() {
			out = append(out, of(a, b))
		}
	}
	long := text(strings.Repeat("😀", 250))
	return append(out, of(long), slices.Repeat(of(long), 31), append(slices.Repeat(of(long), 31), long))
}

// refused is rows that may not be, with what Check says of them.
func refused() []struct {
	r api.Row
	e api.Errno
} {
	long, broken, none := text(strings.Repeat("a", 1001)), text("\xff"), api.Datum{}
	return []struct {
		r api.Row
		e api.Errno
	}{
		{slices.Repeat(of(null), 33), api.ErrRowForm},
		{append(of(none), slices.Repeat(of(null), 32)...), api.ErrRowForm},
		{slices.Repeat(of(long), 1000), api.ErrRowForm},
		{of(none), api.ErrDatumForm},
		{of(api.Datum{Kind: 5}), api.ErrDatumForm},
		{of(num(1), api.Datum{Kind: api.KindNull, Int: 1}), api.ErrDatumForm},
		{of(api.Datum{Kind: api.KindInt, Bool: true}), api.ErrDatumForm},
		{of(text("a"), broken), api.ErrDatumForm},
		{of(text("a"), long), api.ErrDatumLong},
		{of(long, broken), api.ErrDatumLong},
		{of(broken, long), api.ErrDatumForm},
		{append(slices.Repeat(of(null), 31), long), api.ErrDatumLong},
	}
}

func TestCheck(t *testing.T) {
	for _, r := range rows() {
		if e := row.Check(r); e != api.OK {
			t.Errorf("Check(%v) = %v", r, e)
		}
	}
	for _, x := range refused() {
		if e := row.Check(x.r); e != x.e {
			t.Errorf("Check(%v) = %v, want %v", x.r, e, x.e)
		}
	}
}

func TestCmpIsATotalOrder(t *testing.T) {
	all := rows()
	for i, a := range all {
		for j, b := range all {
			want := 0
			if i < j {
				want = -1
			} else if i > j {
				want = 1
			}
			if c := row.Cmp(a, b); c != want {
				t.Fatalf("Cmp(%v, %v) = %d, want %d", a, b, c, want)
			}
		}
	}
}

func TestCmpOfAnyRows(t *testing.T) {
	for _, x := range []struct {
		a, b api.Row
		want int
	}{
		{of(num(1)), of(num(1), null), -1},
		{of(num(2)), of(num(1), num(5)), 1},
		{nil, of(), 0},
		{nil, of(api.Datum{}), -1},
		{of(api.Datum{Int: 1}), of(api.Datum{Int: 2}), 0},
		{of(api.Datum{}), of(null), -1},
		{of(api.Datum{Kind: 5}), of(text("\xff")), 1},
		{of(api.Datum{Kind: 5}), of(api.Datum{Kind: 6}), -1},
		{of(text("\xfe")), of(text("\xff")), -1},
		{slices.Repeat(of(null), 40), slices.Repeat(of(null), 39), 1},
		{append(slices.Repeat(of(null), 40), no), append(slices.Repeat(of(null), 40), yes), -1},
	} {
		if c := row.Cmp(x.a, x.b); c != x.want {
			t.Errorf("Cmp(%v, %v) = %d, want %d", x.a, x.b, c, x.want)
		}
		if c := row.Cmp(x.b, x.a); c != -x.want {
			t.Errorf("Cmp(%v, %v) = %d, want %d", x.b, x.a, c, -x.want)
		}
	}
}

// same says whether two rows have the same data in all fields; nil is the same as no columns.
func same(a, b api.Row) bool { return slices.Equal(a, b) }

func TestPick(t *testing.T) {
	odd := of(api.Datum{Kind: 9, Bool: true, Int: 4, Text: "\xff"}, text(strings.Repeat("a", 2000)))
	wide := slices.Repeat(of(null, yes), 40)
	for _, x := range []struct {
		r    api.Row
		cols []int
		want api.Row
		e    api.Errno
	}{
		{of(num(5), num(6)), []int{1, 1, 0}, of(num(6), num(6), num(5)), api.OK},
		{of(num(5), num(6)), nil, nil, api.OK},
		{nil, []int{}, nil, api.OK},
		{of(num(5)), make([]int, 32), slices.Repeat(of(num(5)), 32), api.OK},
		{odd, []int{1, 0}, of(odd[1], odd[0]), api.OK},
		{wide, []int{79, 78}, of(yes, null), api.OK},
		{of(num(1)), []int{1}, nil, api.ErrRowForm},
		{of(num(1)), []int{0, -1}, nil, api.ErrRowForm},
		{of(num(1)), []int{math.MinInt}, nil, api.ErrRowForm},
		{of(num(1)), []int{math.MaxInt}, nil, api.ErrRowForm},
		{of(num(1)), make([]int, 33), nil, api.ErrRowForm},
		{nil, []int{0}, nil, api.ErrRowForm},
		{of(num(1), num(2))[:1], []int{1}, nil, api.ErrRowForm},
	} {
		got, e := row.Pick(x.r, x.cols)
		if e != x.e || !same(got, x.want) {
			t.Errorf("Pick(%v, %v) = %v, %v, want %v, %v", x.r, x.cols, got, e, x.want, x.e)
		}
	}
}

func TestPickIsNewMemory(t *testing.T) {
	r, cols := of(num(1), text("a")), []int{0, 1}
	first, _ := row.Pick(r, cols)
	second, _ := row.Pick(r, cols)
	first[0] = null
	_ = append(first[:1], null)
	if !same(r, of(num(1), text("a"))) || !same(second, r) || !slices.Equal(cols, []int{0, 1}) {
		t.Error(r, second, cols)
	}
}

// fnv1a is the library's hash of some bytes.
func fnv1a(code string) uint64 {
	h := fnv.New64a()
	h.Write([]byte(code))
	return h.Sum64()
}

func TestHash(t *testing.T) {
	long := strings.Repeat("a", 1001)
	for _, x := range []struct {
		r    api.Row
		cols []int
		code string
	}{
		{nil, nil, ""},
		{of(num(1)), nil, ""},
		{of(null), []int{0}, "\x10"},
		{of(no, yes), []int{1, 0}, "\x21\x20"},
		{of(num(5)), []int{0}, "\x30\x80\x00\x00\x00\x00\x00\x00\x05"},
		{of(num(-1)), []int{0}, "\x30\x7f\xff\xff\xff\xff\xff\xff\xff"},
		{of(text("a")), []int{0}, "\x40a\x00\x01"},
		{of(text("a\x00b")), []int{0}, "\x40a\x00\xffb\x00\x01"},
		{of(null, no), []int{-1, 1, 2, 0, math.MaxInt, math.MinInt, 1}, "\x20\x10\x20"},
		{of(null), make([]int, 100), strings.Repeat("\x10", 100)},
		{append(slices.Repeat(of(null), 40), yes), []int{40}, "\x21"},
		{of(null, no)[:1], []int{1, 0}, "\x10"},
		{of(text("\xff\xc3")), []int{0}, "\x40\xff\xc3\x00\x01"},
		{of(text(long)), []int{0}, "\x40" + long + "\x00\x01"},
		{of(api.Datum{}, api.Datum{Kind: 5, Text: "a"}, null), []int{0, 1, 2}, "\x10"},
		{of(api.Datum{Kind: api.KindNull, Int: 7, Text: "a"}), []int{0}, "\x10"},
		{of(api.Datum{Kind: api.KindBool, Int: 7}), []int{0}, "\x20"},
		{of(api.Datum{Kind: api.KindText, Int: 7}), []int{0}, "\x40\x00\x01"},
	} {
		if h := row.Hash(x.r, x.cols); h != fnv1a(x.code) {
			t.Errorf("Hash(%v, %v) = %d, want %d", x.r, x.cols, h, fnv1a(x.code))
		}
	}
	if h := row.Hash(of(num(1)), nil); h != 14695981039346656037 {
		t.Error(h)
	}
}

func TestHashIsThatOfTheEncoding(t *testing.T) {
	for _, r := range rows() {
		cols := make([]int, len(r))
		for i := range cols {
			cols[i] = i
		}
		if b, _ := row.Encode(r); row.Hash(r, cols) != fnv1a(string(b)) {
			t.Errorf("Hash(%v) = %d, want %d", r, row.Hash(r, cols), fnv1a(string(b)))
		}
	}
}

// unchanged says whether f leaves r as it is, also behind its end.
func unchanged(t *testing.T, name string, r api.Row, f func(r api.Row)) {
	t.Helper()
	within := append(slices.Clone(r), text("behind"), num(7))
	f(within[:len(r)])
	if want := append(slices.Clone(r), text("behind"), num(7)); !reflect.DeepEqual(within, want) {
		t.Errorf("%s changes %v to %v", name, want, within)
	}
}

func TestArgumentsAreLeftAlone(t *testing.T) {
	for _, r := range []api.Row{nil, of(num(1)), of(text("a"), null), of(api.Datum{}), slices.Repeat(of(yes), 33)} {
		unchanged(t, "Check", r, func(r api.Row) { row.Check(r) })
		unchanged(t, "Cmp", r, func(r api.Row) { row.Cmp(r, r) })
		unchanged(t, "Pick", r, func(r api.Row) { row.Pick(r, []int{0}) })
		unchanged(t, "Encode", r, func(r api.Row) { row.Encode(r) })
		unchanged(t, "Hash", r, func(r api.Row) { row.Hash(r, []int{0}) })
		unchanged(t, "Print", r, func(r api.Row) { row.Print(r) })
		unchanged(t, "Sum", r, func(r api.Row) { row.Sum([]api.Counted{{Row: r, Count: 1}, {Row: r, Count: 1}}) })
	}
}

// Texts are part of what is answered: they do not stay in the memory of an argument.
func TestTextsAreNewMemory(t *testing.T) {
	r := of(text(strings.Repeat("a", 100)))
	picked, _ := row.Pick(r, []int{0})
	summed := row.Sum([]api.Counted{{Row: r, Count: 1}})[0].Row
	form, _ := row.Print(r)
	parsed, _ := row.Parse(form)
	for name, d := range map[string]api.Datum{"Pick": picked[0], "Sum": summed[0], "Parse": parsed[0]} {
		for _, s := range []string{r[0].Text, form[2:]} {
			if d.Text != r[0].Text || unsafe.StringData(d.Text) == unsafe.StringData(s) {
				t.Errorf("%s answers a text in the memory of its argument", name)
			}
		}
	}
}
