package row

import "penstock/api"

// The first byte of a datum's encoding.
const (
	codeNull  = 0x10
	codeFalse = 0x20
	codeTrue  = 0x21
	codeInt   = 0x30
	codeText  = 0x40
)

// The byte behind a 00 within the encoding of a text. The text ends with the lesser one, so that a prefix is less than the longer text.
const (
	textEnds = 0x01
	textZero = 0xff
)

// Encode is r as bytes, which compare as rows do.
func Encode(r api.Row) ([]byte, api.Errno) {
	if e := Check(r); e != api.OK {
		return nil, e
	}
	var out []byte
	for _, d := range r {
		out = appendDatum(out, d)
	}
	return out, api.OK
}

// appendDatum is b with the encoding of d behind it; a datum of no kind has none.
func appendDatum(b []byte, d api.Datum) []byte {
	switch d.Kind {
	case api.KindNull:
		return append(b, codeNull)
	case api.KindBool:
		if d.Bool {
			return append(b, codeTrue)
		}
		return append(b, codeFalse)
	case api.KindInt:
		return appendInt(append(b, codeInt), d.Int)
	case api.KindText:
		return appendText(append(b, codeText), d.Text)
	}
	return b
}

func appendInt(b []byte, n int64) []byte {
	shifted := uint64(n) + 1<<63 // from 0 on, so that bytes compare as numbers do
	for shift := 56; shift >= 0; shift -= 8 {
		b = append(b, byte(shifted>>shift))
	}
	return b
}

func appendText(b []byte, s string) []byte {
	for i := range len(s) {
		b = append(b, s[i])
		if s[i] == 0 {
			b = append(b, textZero)
		}
	}
	return append(b, 0, textEnds)
}
