// Package datum is layer 1: see shared/doc/01-datum.md.
package datum

import (
	"cmp"
	"strings"
	"unicode/utf8"

	"penstock/api"
)

// Check says whether d may be.
func Check(d api.Datum) api.Errno {
	if !wellFormed(d) {
		return api.ErrDatumForm
	}
	if len(d.Text) > api.MaxText {
		return api.ErrDatumLong
	}
	return api.OK
}

// wellFormed says whether d has a kind, and no field that its kind lacks.
func wellFormed(d api.Datum) bool {
	switch d.Kind {
	case api.KindNull:
		if d.Int != 0 {
			return false
		}
		fallthrough // a null lacks what an integer lacks, too
	case api.KindInt:
		return !d.Bool && d.Text == ""
	case api.KindBool:
		return d.Int == 0 && d.Text == ""
	case api.KindText:
		return !d.Bool && d.Int == 0 && utf8.ValidString(d.Text)
	}
	return false
}

// Cmp is the order of all data.
func Cmp(a, b api.Datum) int {
	if a.Kind != b.Kind {
		return cmp.Compare(a.Kind, b.Kind)
	}
	switch a.Kind {
	case api.KindBool:
		return cmpBool(a.Bool, b.Bool)
	case api.KindInt:
		return cmp.Compare(a.Int, b.Int)
	case api.KindText:
		return strings.Compare(a.Text, b.Text)
	}
	return 0
}

func cmpBool(a, b bool) int {
	switch {
	case a == b:
		return 0
	case b:
		return -1
	}
	return 1
}

func null() api.Datum { return api.Datum{Kind: api.KindNull} }

func boolean(b bool) api.Datum { return api.Datum{Kind: api.KindBool, Bool: b} }

func integer(n int64) api.Datum { return api.Datum{Kind: api.KindInt, Int: n} }

func text(s string) api.Datum { return api.Datum{Kind: api.KindText, Text: s} }

func isNull(d api.Datum) bool { return d.Kind == api.KindNull }

// fits says whether d is valid, and null or of the kind k.
func fits(d api.Datum, k api.Kind) bool {
	return Check(d) == api.OK && (d.Kind == k || isNull(d))
}

// strict answers for an operation on the kind k that is null wherever an argument is: f is asked for the rest alone.
func strict(k api.Kind, a, b api.Datum, f func(a, b api.Datum) (api.Datum, api.Errno)) (api.Datum, api.Errno) {
	if !fits(a, k) || !fits(b, k) {
		return api.Datum{}, api.ErrDatumForm
	}
	if isNull(a) || isNull(b) {
		return null(), api.OK
	}
	return f(a, b)
}
