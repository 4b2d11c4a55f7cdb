package datum_test

import (
	"strings"
	"testing"
	"unsafe"

	"penstock/api"
	"penstock/datum"
)

func TestConcat(t *testing.T) {
	for _, x := range []struct{ a, b string }{
		{"", ""}, {"a", ""}, {"", "b"}, {"ab", "cd"}, {"né", "€"}, {"'", "\x00"},
		{strings.Repeat("a", 1000), ""}, {strings.Repeat("é", 250), strings.Repeat("b", 500)},
	} {
		d, e := datum.Concat(text(x.a), text(x.b))
		answered(t, "Concat", d, e, text(x.a+x.b), api.OK)
	}
	for _, n := range []int{1, 501, 999, 1000} {
		d, e := datum.Concat(text(strings.Repeat("a", n)), text(strings.Repeat("b", 1001-n)))
		answered(t, "Concat", d, e, api.Datum{}, api.ErrDatumLong)
	}
	long := text(strings.Repeat("a", 1000))
	d, e := datum.Concat(long, null)
	answered(t, "Concat", d, e, null, api.OK)
	d, e = datum.Concat(long, long)
	answered(t, "Concat", d, e, api.Datum{}, api.ErrDatumLong)
}

func TestLength(t *testing.T) {
	for s, want := range map[string]int64{
		"": 0, "a": 1, "né": 2, "aé€😀": 4, "\x00": 1, "e\u0301": 2, "\ufffd": 1,
		strings.Repeat("a", 1000): 1000, strings.Repeat("é", 500): 500, strings.Repeat("😀", 250): 250,
	} {
		d, e := datum.Length(text(s))
		answered(t, "Length of "+s, d, e, num(want), api.OK)
	}
}

// within says whether s lies in the memory of whole.
func within(s, whole string) bool {
	p, q := uintptr(unsafe.Pointer(unsafe.StringData(s))), uintptr(unsafe.Pointer(unsafe.StringData(whole)))
	return p >= q && p < q+uintptr(len(whole))
}

func TestTextsAreNewMemory(t *testing.T) {
	s := strings.Repeat("abc", 30)
	for _, x := range []struct{ a, b string }{{s, ""}, {"", s}, {s, "x"}, {"x", s}} {
		d, _ := datum.Concat(text(x.a), text(x.b))
		if within(d.Text, s) {
			t.Errorf("Concat(%q, %q) answers an argument's memory", x.a, x.b)
		}
	}
	written := "'" + s + "'"
	if d, _ := datum.Parse(written); d.Text != s || within(d.Text, written) {
		t.Errorf("Parse answers its argument's memory, or %v", d)
	}
	if p := datum.Print(text(s)); within(p, s) {
		t.Error("Print answers its argument's memory")
	}
}
