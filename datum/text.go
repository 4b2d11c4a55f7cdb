package datum

import (
	"strings"

	"penstock/api"
)

func Concat(a, b api.Datum) (api.Datum, api.Errno) {
	return strict(api.KindText, a, b, func(a, b api.Datum) (api.Datum, api.Errno) {
		if len(a.Text)+len(b.Text) > api.MaxText {
			return api.Datum{}, api.ErrDatumLong
		}
		return text(together(a.Text, b.Text)), api.OK
	})
}

// together is a and b in new memory, which a + b is not where one of them is empty.
func together(a, b string) string {
	var out strings.Builder
	out.Grow(len(a) + len(b))
	out.WriteString(a)
	out.WriteString(b)
	return out.String()
}

func Length(a api.Datum) (api.Datum, api.Errno) {
	return strict(api.KindText, a, a, func(a, _ api.Datum) (api.Datum, api.Errno) {
		n := int64(0)
		for range a.Text {
			n++
		}
		return integer(n), api.OK
	})
}
