package datum_test

import (
	"strings"
	"testing"
	"unicode/utf8"

	"penstock/api"
	"penstock/datum"
)

func TestPrint(t *testing.T) {
	for d, want := range map[api.Datum]string{
		null: "null", yes: "true", no: "false",
		num(0): "0", num(-5): "-5", num(10): "10",
		num(1<<63 - 1): "9223372036854775807", num(-1 << 63): "-9223372036854775808",
		text(""): "''", text("a"): "'a'", text("null"): "'null'", text("a'\n"): `'a''\n'`, text("'"): "''''",
		text(`\`): `'\\'`, text(`\n`): `'\\n'`, text("\n\r\t"): `'\n\r\t'`,
		text("\x00\x08\x0b\x0c\x0e\x1f\x7f"): `'\x00\x08\x0b\x0c\x0e\x1f\x7f'`,
		text(" \"~"):                         `' "~'`, text("né€😀"): "'né€😀'", text("\u0080\u009f\u2028\ufeff\ufffd"): "'\u0080\u009f\u2028\ufeff\ufffd'",
	} {
		if s := datum.Print(d); s != want {
			t.Errorf("Print(%v) = %q, want %q", d, s, want)
		}
	}
	for d := range refused() {
		if s := datum.Print(d); s != "" {
			t.Errorf("Print(%v) = %q", d, s)
		}
	}
}

// plain is the text form of a byte below 80 (hexadecimal), as the document lists it.
func plain(c byte) string {
	switch c {
	case '\'':
		return "''"
	case '\\':
		return "\\\\"
	case 0x0a:
		return "\\n"
	case 0x0d:
		return "\\r"
	case 0x09:
		return "\\t"
	}
	const digits = "0123456789abcdef"
	if c < 0x20 || c == 0x7f {
		return "\\x" + string(digits[c/16]) + string(digits[c%16])
	}
	return string(rune(c))
}

func TestEveryByteIsWrittenOneWay(t *testing.T) {
	for c := range byte(0x80) {
		d, form := text("a"+string(rune(c))+"b"), "'a"+plain(c)+"b'"
		if s := datum.Print(d); s != form {
			t.Errorf("byte %x: %q, want %q", c, s, form)
		}
		got, e := datum.Parse(form)
		answered(t, form, got, e, d, api.OK)
	}
	// Of all escapes of a backslash and of all two digits, only those of plain are read.
	forms := map[string]byte{}
	for c := range byte(0x80) {
		forms["'"+plain(c)+"'"] = c
	}
	for c := range 256 {
		parsesAs(t, "'\\"+string([]byte{byte(c)})+"'", forms)
		for k := range 256 {
			parsesAs(t, "'\\x"+string([]byte{byte(c), byte(k)})+"'", forms)
		}
	}
}

func parsesAs(t *testing.T, s string, forms map[string]byte) {
	t.Helper()
	d, e := datum.Parse(s)
	if c, ok := forms[s]; ok {
		answered(t, s, d, e, text(string(rune(c))), api.OK)
	} else {
		answered(t, s, d, e, api.Datum{}, api.ErrDatumForm)
	}
}

func TestParseOfTheTextFormIsTheDatum(t *testing.T) {
	all := append(ascending(), text(strings.Repeat("\x01", 1000)), text(strings.Repeat("'", 1000)))
	for _, n := range edges() {
		all = append(all, num(n))
	}
	for r := rune(0); r <= utf8.MaxRune; r += 97 {
		if utf8.ValidRune(r) {
			all = append(all, text(string(r)))
		}
	}
	for _, d := range all {
		s := datum.Print(d)
		got, e := datum.Parse(s)
		answered(t, s, got, e, d, api.OK)
	}
}

func TestParseRefuses(t *testing.T) {
	for _, s := range []string{
		"", " ", "nul", "nulls", "NULL", "True", "FALSE", " null", "null ", "true\n", "nil",
		"01", "00", "-0", "+1", "-", "+", "--1", "- 1", "1 ", " 1", "1.0", "1e3", "0x10", "1_000", "-01", "١",
		"9223372036854775808", "-9223372036854775809", "99999999999999999999999999",
		"'", "'a", "a'", "a", "'''", "'a''", "''a'", "'a'b'", "'a' ", " 'a'", "'a''b", "\"a\"", "'a'\x00",
		`'\'`, `'\\\'`, `'\q'`, `'\N'`, `'\''`, `'\0'`, `'\x'`, `'\x1'`, `'\x1g'`, `'\x 1'`, `'\x+1'`, `'\x1F'`, `'\X1f'`,
		`'\x20'`, `'\x41'`, `'\x27'`, `'\x5c'`, `'\x0a'`, `'\x09'`, `'\x0d'`, `'\x7F'`, `'\x80'`, `'\xe9'`, `'\u0001'`,
		"'\n'", "'\r'", "'\t'", "'\x00'", "'\x1f'", "'\x7f'",
		"'\xff'", "'a\xc3'", "\xff", "'\xc0\x80'", "'\xed\xa0\x80'",
		"'" + strings.Repeat("a", 1001) + "'", "'" + strings.Repeat("''", 1001) + "'", "'" + strings.Repeat("é", 501) + "'",
	} {
		d, e := datum.Parse(s)
		answered(t, s, d, e, api.Datum{}, api.ErrDatumForm)
	}
}

// Whatever is parsed is the one datum whose text form it is.
func FuzzParse(f *testing.F) {
	for _, d := range ascending() {
		f.Add(datum.Print(d))
	}
	f.Fuzz(func(t *testing.T, s string) {
		d, e := datum.Parse(s)
		if e == api.OK && (datum.Check(d) != api.OK || datum.Print(d) != s) {
			t.Errorf("Parse(%q) = %v, of the text form %q", s, d, datum.Print(d))
		}
		if e != api.OK && (e != api.ErrDatumForm || d != (api.Datum{})) {
			t.Errorf("Parse(%q) = %v, %v", s, d, e)
		}
		if want := text(s); datum.Check(want) == api.OK {
			got, e := datum.Parse(datum.Print(want))
			answered(t, s, got, e, want, api.OK)
		}
	})
}
