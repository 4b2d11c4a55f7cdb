package row

import (
	"slices"

	"penstock/api"
)

// Sum puts rows that are the same together.
func Sum(l []api.Counted) []api.Counted {
	var out []api.Counted
	place := map[string]int{} // of a row in out, by its key
	var key []byte
	for _, c := range l {
		key = appendKey(key[:0], c.Row)
		i, seen := place[string(key)]
		if !seen {
			i = len(out)
			place[string(key)] = i
			out = append(out, api.Counted{Row: c.Row})
		}
		out[i].Count += c.Count
	}
	out = slices.DeleteFunc(out, func(c api.Counted) bool { return c.Count == 0 })
	slices.SortFunc(out, func(a, b api.Counted) int { return Cmp(a.Row, b.Row) })
	for i := range out {
		out[i].Row = freshRow(out[i].Row)
	}
	return out
}

// appendKey is b with a key of r behind it, which two rows share exactly if Cmp holds them equal: the encoding, even of a row that may not be.
func appendKey(b []byte, r api.Row) []byte {
	const noKind = 0x50 // begins no encoding
	for _, d := range r {
		before := len(b)
		b = appendDatum(b, d)
		if len(b) == before {
			b = append(b, noKind, byte(d.Kind))
		}
	}
	return b
}

func freshRow(r api.Row) api.Row {
	out := make(api.Row, len(r))
	for i, d := range r {
		out[i] = fresh(d)
	}
	return out
}
