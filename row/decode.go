package row

import (
	"penstock/api"
	"penstock/datum"
)

// Decode is the row of bytes.
func Decode(b []byte) (api.Row, api.Errno) {
	in := reader{rest: b}
	return in.row()
}

// reader reads encodings from the beginning of rest. Its methods panic with malformed where there is none.
type reader struct{ rest []byte }

// malformed is the reader's own panic.
type malformed struct{ err api.Errno }

// must panics unless the encoding is right so far.
func (in *reader) must(right bool) {
	if !right {
		panic(malformed{api.ErrRowForm})
	}
}

// row reads data up to the end.
func (in *reader) row() (r api.Row, e api.Errno) {
	defer func() {
		if x := recover(); x != nil {
			// Any other panic is a fault of the program, which the assertion passes on.
			r, e = nil, x.(malformed).err
		}
	}()
	for len(in.rest) > 0 {
		in.must(len(r) < api.MaxColumns)
		r = append(r, in.datum())
	}
	return r, api.OK
}

func (in *reader) datum() api.Datum {
	var d api.Datum
	switch in.next() {
	case codeNull:
		d.Kind = api.KindNull
	case codeFalse:
		d.Kind = api.KindBool
	case codeTrue:
		d.Kind, d.Bool = api.KindBool, true
	case codeInt:
		d.Kind, d.Int = api.KindInt, in.integer()
	case codeText:
		d.Kind, d.Text = api.KindText, in.text()
	}
	in.must(datum.Check(d) == api.OK) // refuses what is of no kind as well
	return d
}

func (in *reader) next() byte {
	in.must(len(in.rest) > 0)
	b := in.rest[0]
	in.rest = in.rest[1:]
	return b
}

func (in *reader) integer() int64 {
	n := uint64(0)
	for range 8 {
		n = n<<8 | uint64(in.next())
	}
	return int64(n - 1<<63)
}

func (in *reader) text() string {
	var out []byte
	for {
		b := in.next()
		if b == 0 {
			mark := in.next()
			if mark == textEnds {
				return string(out)
			}
			in.must(mark == textZero)
		}
		out = append(out, b)
	}
}
