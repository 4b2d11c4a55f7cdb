package datum_test

import (
	"math"
	"strings"
	"testing"

	"penstock/api"
	"penstock/datum"
)

type unary = func(a api.Datum) (api.Datum, api.Errno)
type binary = func(a, b api.Datum) (api.Datum, api.Errno)

func num(n int64) api.Datum { return api.Datum{Kind: api.KindInt, Int: n} }

func text(s string) api.Datum { return api.Datum{Kind: api.KindText, Text: s} }

func truth(b bool) api.Datum { return api.Datum{Kind: api.KindBool, Bool: b} }

var (
	null = api.Datum{Kind: api.KindNull}
	yes  = truth(true)
	no   = truth(false)
)

func unaries() map[string]unary {
	return map[string]unary{"Neg": datum.Neg, "Length": datum.Length, "Not": datum.Not}
}

func binaries() map[string]binary {
	return map[string]binary{
		"Add": datum.Add, "Sub": datum.Sub, "Mul": datum.Mul, "Div": datum.Div, "Mod": datum.Mod,
		"Concat": datum.Concat, "And": datum.And, "Or": datum.Or,
	}
}

func comparison(op uint8) binary {
	return func(a, b api.Datum) (api.Datum, api.Errno) { return datum.Compare(op, a, b) }
}

// kindOf is the kind that an operation asks of its arguments.
func kindOf(name string) api.Kind {
	switch name {
	case "Length", "Concat":
		return api.KindText
	case "Not", "And", "Or":
		return api.KindBool
	}
	return api.KindInt
}

// ascending is valid data, each less than the one behind it.
func ascending() []api.Datum {
	return []api.Datum{
		null, no, yes,
		num(math.MinInt64), num(math.MinInt64 + 1), num(-7), num(-2), num(-1), num(0), num(1), num(2), num(7),
		num(1 << 31), num(3037000499), num(3037000500), num(1 << 32), num(math.MaxInt64 - 1), num(math.MaxInt64),
		text(""), text("\x00"), text("\x01"), text("\t\n\r"), text("\x1f"), text(" "), text("'"), text("''"),
		text("A"), text("\\"), text("\\n"), text("a"), text("a\x00"), text("ab"), text("b"), text(strings.Repeat("b", 1000)),
		text("null"), text("né"), text("\x7f"), text("\u0080"), text("é"), text(strings.Repeat("é", 500)),
		text("€"), text("\ufeff"), text("\ufffd"), text("😀"), text("\U0010ffff"),
	}
}

// refused is data that may not be, with what Check says of them.
func refused() map[api.Datum]api.Errno {
	long := strings.Repeat("a", 1001)
	return map[api.Datum]api.Errno{
		{}:                                       api.ErrDatumForm,
		{Kind: 5}:                                api.ErrDatumForm,
		{Kind: 255}:                              api.ErrDatumForm,
		{Kind: 5, Text: long}:                    api.ErrDatumForm,
		{Bool: true}:                             api.ErrDatumForm,
		{Kind: api.KindNull, Bool: true}:         api.ErrDatumForm,
		{Kind: api.KindNull, Int: 1}:             api.ErrDatumForm,
		{Kind: api.KindNull, Text: "a"}:          api.ErrDatumForm,
		{Kind: api.KindBool, Int: 1}:             api.ErrDatumForm,
		{Kind: api.KindBool, Text: "a"}:          api.ErrDatumForm,
		{Kind: api.KindBool, Text: long}:         api.ErrDatumForm,
		{Kind: api.KindInt, Bool: true}:          api.ErrDatumForm,
		{Kind: api.KindInt, Text: "a"}:           api.ErrDatumForm,
		{Kind: api.KindText, Bool: true}:         api.ErrDatumForm,
		{Kind: api.KindText, Int: -1}:            api.ErrDatumForm,
		{Kind: api.KindText, Int: 1, Text: long}: api.ErrDatumForm,
		text("\xff"):                             api.ErrDatumForm,
		text("a\xc3"):                            api.ErrDatumForm,
		text("\xc0\x80"):                         api.ErrDatumForm, // too long a way to write 0
		text("\xed\xa0\x80"):                     api.ErrDatumForm, // half of a surrogate pair
		text("\xf4\x90\x80\x80"):                 api.ErrDatumForm, // beyond the last rune
		text(long + "\xff"):                      api.ErrDatumForm,
		text(strings.Repeat("é", 500) + "\xc3"):  api.ErrDatumForm,
		text(long):                               api.ErrDatumLong,
		text(strings.Repeat("é", 501)):           api.ErrDatumLong,
		text(strings.Repeat("a", 999) + "é"):     api.ErrDatumLong,
	}
}

func TestCheck(t *testing.T) {
	for _, d := range ascending() {
		if e := datum.Check(d); e != api.OK {
			t.Errorf("Check(%v) = %v", d, e)
		}
	}
	for d, want := range refused() {
		if e := datum.Check(d); e != want {
			t.Errorf("Check(%v) = %v, want %v", d, e, want)
		}
	}
}

func TestCmpIsATotalOrder(t *testing.T) {
	all := ascending()
	for i, a := range all {
		for j, b := range all {
			want := 0
			if i < j {
				want = -1
			} else if i > j {
				want = 1
			}
			if c := datum.Cmp(a, b); c != want {
				t.Errorf("Cmp(%v, %v) = %d, want %d", a, b, c, want)
			}
		}
	}
}

func TestCmpOfWhatMayNotBe(t *testing.T) {
	for _, x := range []struct {
		a, b api.Datum
		want int
	}{
		{api.Datum{}, null, -1},
		{api.Datum{}, api.Datum{Int: 5, Text: "a", Bool: true}, 0},
		{api.Datum{Kind: 5}, text("z"), 1},
		{api.Datum{Kind: 5, Int: 1}, api.Datum{Kind: 5, Int: 2}, 0},
		{api.Datum{Kind: 255, Text: "a"}, api.Datum{Kind: 254}, 1},
		{api.Datum{Kind: api.KindNull, Int: 1}, null, 0},
		{api.Datum{Kind: api.KindInt, Int: 1, Text: "b"}, api.Datum{Kind: api.KindInt, Int: 1, Text: "a"}, 0},
		{api.Datum{Kind: api.KindBool, Int: 9}, yes, -1},
		{api.Datum{Kind: api.KindText, Text: "a", Int: 9}, text("a"), 0},
		{text("\xff"), text("é"), 1},
		{text("\xff"), text("\xfe"), 1},
		{text(strings.Repeat("a", 1002)), text(strings.Repeat("a", 1001)), 1},
	} {
		if c := datum.Cmp(x.a, x.b); c != x.want {
			t.Errorf("Cmp(%v, %v) = %d, want %d", x.a, x.b, c, x.want)
		}
		if c := datum.Cmp(x.b, x.a); c != -x.want {
			t.Errorf("Cmp(%v, %v) = %d, want %d", x.b, x.a, c, -x.want)
		}
	}
}

// answered says whether an operation answered what it was to answer, and nothing beside an error.
func answered(t *testing.T, name string, d api.Datum, e api.Errno, want api.Datum, wantErr api.Errno) {
	t.Helper()
	if e != wantErr || d != want {
		t.Errorf("%s: %v, %v, want %v, %v", name, d, e, want, wantErr)
	}
}

func TestWrongArgumentsComeFirst(t *testing.T) {
	wrong := []api.Datum{}
	for d := range refused() {
		wrong = append(wrong, d)
	}
	for name, f := range unaries() {
		for _, d := range append(unfit(kindOf(name)), wrong...) {
			got, e := f(d)
			answered(t, name+datum.Print(d), got, e, api.Datum{}, api.ErrDatumForm)
		}
	}
	for name, f := range binaries() {
		good := append(fit(kindOf(name)), null)
		for _, d := range append(unfit(kindOf(name)), wrong...) {
			for _, g := range append(good, d) {
				got, e := f(d, g)
				answered(t, name, got, e, api.Datum{}, api.ErrDatumForm)
				got, e = f(g, d)
				answered(t, name, got, e, api.Datum{}, api.ErrDatumForm)
			}
		}
	}
	for op := api.ExprEq; op <= api.ExprGe; op++ {
		for _, d := range wrong {
			for _, g := range append(ascending(), d) {
				got, e := datum.Compare(op, d, g)
				answered(t, "Compare", got, e, api.Datum{}, api.ErrDatumForm)
				got, e = datum.Compare(op, g, d)
				answered(t, "Compare", got, e, api.Datum{}, api.ErrDatumForm)
			}
		}
	}
}

// fit is the data of kind k, unfit those of the other kinds, without null.
func fit(k api.Kind) []api.Datum { return those(func(d api.Datum) bool { return d.Kind == k }) }

func unfit(k api.Kind) []api.Datum {
	return those(func(d api.Datum) bool { return d.Kind != k && d != null })
}

func those(keep func(d api.Datum) bool) []api.Datum {
	var out []api.Datum
	for _, d := range ascending() {
		if keep(d) {
			out = append(out, d)
		}
	}
	return out
}

func TestNullPassesThrough(t *testing.T) {
	for name, f := range unaries() {
		d, e := f(null)
		answered(t, name, d, e, null, api.OK)
	}
	for name, f := range binaries() {
		d, e := f(null, null)
		answered(t, name, d, e, null, api.OK)
		if kindOf(name) == api.KindBool {
			continue
		}
		for _, g := range fit(kindOf(name)) {
			d, e = f(null, g)
			answered(t, name, d, e, null, api.OK)
			d, e = f(g, null)
			answered(t, name, d, e, null, api.OK)
		}
	}
	for op := api.ExprEq; op <= api.ExprGe; op++ {
		for _, g := range ascending() {
			d, e := datum.Compare(op, null, g)
			answered(t, "Compare", d, e, null, api.OK)
			d, e = datum.Compare(op, g, null)
			answered(t, "Compare", d, e, null, api.OK)
		}
	}
}

func TestEveryResultIsValidOrAnError(t *testing.T) {
	all := ascending()
	for d := range refused() {
		all = append(all, d)
	}
	check := func(name string, d api.Datum, e api.Errno) {
		if e == api.OK && datum.Check(d) != api.OK || e != api.OK && d != (api.Datum{}) {
			t.Errorf("%s: %v, %v", name, d, e)
		}
	}
	both := binaries()
	for op := range uint8(255) {
		both["Compare"+string(rune(op))] = comparison(op)
	}
	for _, a := range all {
		for name, f := range unaries() {
			d, e := f(a)
			check(name, d, e)
		}
		for _, b := range all {
			for name, f := range both {
				d, e := f(a, b)
				check(name, d, e)
			}
		}
	}
}
