package row_test

import (
	"bytes"
	"slices"
	"strings"
	"testing"

	"penstock/api"
	"penstock/row"
)

func TestEncode(t *testing.T) {
	for _, x := range []struct {
		r    api.Row
		want string
	}{
		{nil, ""},
		{of(null, num(5), text("a")), "\x10\x30\x80\x00\x00\x00\x00\x00\x00\x05\x40\x61\x00\x01"},
		{of(no, yes), "\x20\x21"},
		{of(num(-1 << 63)), "\x30\x00\x00\x00\x00\x00\x00\x00\x00"},
		{of(num(1<<63 - 1)), "\x30\xff\xff\xff\xff\xff\xff\xff\xff"},
		{of(num(-1)), "\x30\x7f\xff\xff\xff\xff\xff\xff\xff"},
		{of(num(0x0102030405060708)), "\x30\x81\x02\x03\x04\x05\x06\x07\x08"},
		{of(text("")), "\x40\x00\x01"},
		{of(text("\x00")), "\x40\x00\xff\x00\x01"},
		{of(text("a\x00\x01"), null), "\x40a\x00\xff\x01\x00\x01\x10"},
		{slices.Repeat(of(null), 32), strings.Repeat("\x10", 32)},
	} {
		if b, e := row.Encode(x.r); e != api.OK || string(b) != x.want {
			t.Errorf("Encode(%v) = %x, %v, want %x", x.r, b, e, x.want)
		}
	}
	for _, x := range refused() {
		if b, e := row.Encode(x.r); e != x.e || len(b) != 0 {
			t.Errorf("Encode(%v) = %x, %v, want %v", x.r, b, e, x.e)
		}
	}
}

func TestEncodingsCompareAsRowsDo(t *testing.T) {
	all := rows()
	codes := make([][]byte, len(all))
	for i, r := range all {
		codes[i], _ = row.Encode(r)
	}
	for i, a := range all {
		for j, b := range all {
			if c := bytes.Compare(codes[i], codes[j]); c != row.Cmp(a, b) {
				t.Fatalf("%v and %v compare as %d, their encodings as %d", a, b, row.Cmp(a, b), c)
			}
		}
	}
}

func TestDecodeOfAnEncodingIsTheRow(t *testing.T) {
	for _, r := range append(rows(), of(data()[:32]...), slices.Repeat(of(yes), 32)) {
		b, _ := row.Encode(r)
		before := bytes.Clone(b)
		got, e := row.Decode(append(b, 0xff)[:len(b)])
		if e != api.OK || !same(got, r) {
			t.Errorf("Decode(%x) = %v, %v, want %v", before, got, e, r)
		}
		if !bytes.Equal(b, before) {
			t.Errorf("Decode changes %x to %x", before, b)
		}
		clear(b)
		if !same(got, r) {
			t.Errorf("the row of %x is in its memory", before)
		}
	}
}

func decodeRefuses(t *testing.T, s string) {
	t.Helper()
	if r, e := row.Decode([]byte(s)); e != api.ErrRowForm || len(r) != 0 {
		t.Errorf("Decode(%x) = %v, %v", s, r, e)
	}
}

func TestDecodeRefuses(t *testing.T) {
	for _, s := range []string{
		"\x10\x11", "\x00", "\x10\x00", "\xff",
		"\x30", "\x30\x80\x00\x00\x00\x00\x00\x00", "\x10\x30\x80",
		"\x40", "\x40a", "\x40a\x00", "\x40a\x01", "\x40\x00\xff", "\x40\x00\xff\x00", "\x40a\x00\x01\x01", "\x40a\x00\x01b",
		"\x40\xff\x00\x01", "\x40\xc3\x00\x01", "\x40\xc0\x80\x00\x01", "\x40\xed\xa0\x80\x00\x01",
		"\x40" + strings.Repeat("a", 1001) + "\x00\x01", "\x40" + strings.Repeat("\x00\xff", 1001) + "\x00\x01",
		"\x40" + strings.Repeat("a", 100000),
		strings.Repeat("\x10", 33), strings.Repeat("\x40\x00\x01", 33), strings.Repeat("\x10", 1<<20),
		strings.Repeat("\x10", 32) + "\x11",
	} {
		decodeRefuses(t, s)
	}
}

func TestDecodeOfEveryFirstByte(t *testing.T) {
	for c := range 256 {
		s := string([]byte{byte(c)})
		if strings.Contains("\x10\x20\x21", s) {
			if r, e := row.Decode([]byte(s)); e != api.OK || len(r) != 1 {
				t.Errorf("Decode(%x) = %v, %v", s, r, e)
			}
			continue
		}
		decodeRefuses(t, s)
		decodeRefuses(t, "\x10"+s)
	}
}

func TestDecodeOfEveryByteBehindAZero(t *testing.T) {
	for c := range 256 {
		s := "\x40a\x00" + string([]byte{byte(c)}) + "\x00\x01"
		if c == 0xff {
			if r, e := row.Decode([]byte(s)); e != api.OK || !same(r, of(text("a\x00"))) {
				t.Errorf("Decode(%x) = %v, %v", s, r, e)
			}
			continue
		}
		decodeRefuses(t, s)
	}
}

// What is cut off within a datum is no encoding.
func TestDecodeOfABeginning(t *testing.T) {
	whole := of(null, num(-9), text("a\x00b"), yes, text(""))
	b, _ := row.Encode(whole)
	ends := map[int]int{}
	for n := range len(whole) + 1 {
		head, _ := row.Encode(whole[:n])
		ends[len(head)] = n + 1
	}
	for i := range len(b) + 1 {
		if n := ends[i]; n > 0 {
			if r, e := row.Decode(b[:i]); e != api.OK || !same(r, whole[:n-1]) {
				t.Errorf("Decode(%x) = %v, %v", b[:i], r, e)
			}
			continue
		}
		decodeRefuses(t, string(b[:i]))
	}
}

// Whatever is decoded is the one row whose encoding it is.
func FuzzDecode(f *testing.F) {
	for i, r := range rows() {
		if b, _ := row.Encode(r); i%50 == 0 {
			f.Add(b)
		}
	}
	f.Add([]byte("\x40\x00"))
	f.Add([]byte("\x30\x00"))
	f.Fuzz(func(t *testing.T, b []byte) {
		r, e := row.Decode(b)
		if e != api.OK {
			if e != api.ErrRowForm || len(r) != 0 {
				t.Errorf("Decode(%x) = %v, %v", b, r, e)
			}
			return
		}
		if again, e := row.Encode(r); e != api.OK || !bytes.Equal(again, b) {
			t.Errorf("Decode(%x) = %v, of the encoding %x, %v", b, r, again, e)
		}
	})
}

func TestEncodeIsNewMemory(t *testing.T) {
	r := of(text("a"), null)
	first, _ := row.Encode(r)
	second, _ := row.Encode(r)
	clear(first[:cap(first)])
	if string(second) != "\x40a\x00\x01\x10" || !same(r, of(text("a"), null)) {
		t.Errorf("%x, %v", second, r)
	}
}
