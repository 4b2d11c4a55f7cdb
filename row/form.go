package row

import (
	"strings"

	"penstock/api"
	"penstock/datum"
)

// between stands between the text forms of two data.
const between = ", "

// Print is r as it is written.
func Print(r api.Row) (string, api.Errno) {
	if e := Check(r); e != api.OK {
		return "", e
	}
	forms := make([]string, len(r))
	for i, d := range r {
		forms[i] = datum.Print(d)
	}
	return "(" + strings.Join(forms, between) + ")", api.OK
}

// Parse is the row that s writes.
func Parse(s string) (api.Row, api.Errno) {
	rest, opened := strings.CutPrefix(s, "(")
	rest, closed := strings.CutSuffix(rest, ")")
	if !opened || !closed {
		return nil, api.ErrRowForm
	}
	var r api.Row
	for more := rest != ""; more; {
		var form string
		form, rest, more = cut(rest)
		d, e := datum.Parse(form)
		if e != api.OK || len(r) == api.MaxColumns {
			return nil, api.ErrRowForm
		}
		r = append(r, d)
	}
	return r, api.OK
}

// cut is the first text form of s, what is behind it, and whether there must be another one.
func cut(s string) (form, rest string, more bool) {
	quoted := false
	for i := range len(s) {
		if s[i] == '\'' {
			quoted = !quoted // a quote within a text is doubled: it changes nothing
		}
		if !quoted && strings.HasPrefix(s[i:], between) {
			return s[:i], s[i+len(between):], true
		}
	}
	return s, "", false
}
