package datum

import (
	"strconv"
	"strings"

	"penstock/api"
)

// Print is d as it is written.
func Print(d api.Datum) string {
	if Check(d) != api.OK {
		return ""
	}
	switch d.Kind {
	case api.KindBool:
		return strconv.FormatBool(d.Bool)
	case api.KindInt:
		return strconv.FormatInt(d.Int, 10)
	case api.KindText:
		return quote(d.Text)
	}
	return "null"
}

func quote(s string) string {
	var out strings.Builder
	out.Grow(len(s) + 2)
	out.WriteByte('\'')
	for _, r := range s {
		out.WriteString(escape(r))
	}
	out.WriteByte('\'')
	return out.String()
}

// escape is how r is written within a text.
func escape(r rune) string {
	switch r {
	case '\'':
		return `''`
	case '\\':
		return `\\`
	case '\n':
		return `\n`
	case '\r':
		return `\r`
	case '\t':
		return `\t`
	}
	if r < 0x20 || r == 0x7f {
		const digits = "0123456789abcdef"
		return `\x` + digits[r>>4:r>>4+1] + digits[r&15:r&15+1]
	}
	return string(r)
}

// Parse is the datum that s writes.
func Parse(s string) (api.Datum, api.Errno) {
	d, ok := read(s)
	// read takes more spellings than one, and data that may not be, but each datum has one text form.
	if !ok || Check(d) != api.OK || Print(d) != s {
		return api.Datum{}, api.ErrDatumForm
	}
	return d, api.OK
}

// read finds the one datum whose text form s could be, if there is any.
func read(s string) (api.Datum, bool) {
	switch s {
	case "null":
		return null(), true
	case "true":
		return boolean(true), true
	case "false":
		return boolean(false), true
	}
	if strings.HasPrefix(s, "'") {
		t, ok := unquote(s)
		return text(t), ok
	}
	n, err := strconv.ParseInt(s, 10, 64)
	return integer(n), err == nil
}

// unquote undoes quote, where s begins with a quote.
func unquote(s string) (string, bool) {
	if len(s) < 2 || !strings.HasSuffix(s, "'") {
		return "", false
	}
	s = s[1 : len(s)-1]
	var out strings.Builder
	next := 0
	for i, r := range s {
		if i < next { // still in the escape that was read
			continue
		}
		if r == '\'' || r == '\\' {
			size := 0
			r, size = unescape(s[i:])
			if size == 0 {
				return "", false
			}
			next = i + size
		}
		out.WriteRune(r)
	}
	return out.String(), true
}

// unescape is what the escape at the beginning of s stands for, and how many bytes it has (0: there is none).
func unescape(s string) (rune, int) {
	if len(s) < 2 {
		return 0, 0
	}
	switch s[:2] {
	case `''`:
		return '\'', 2
	case `\\`:
		return '\\', 2
	case `\n`:
		return '\n', 2
	case `\r`:
		return '\r', 2
	case `\t`:
		return '\t', 2
	case `\x`:
		return unhex(s[2:])
	}
	return 0, 0
}

// unhex is the number of the two digits at the beginning of s, with the size of the escape that ends with them.
func unhex(s string) (rune, int) {
	if len(s) < 2 {
		return 0, 0
	}
	n, err := strconv.ParseUint(s[:2], 16, 8)
	if err != nil {
		return 0, 0
	}
	return rune(n), 4
}
