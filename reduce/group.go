package reduce

import (
	"maps"
	"slices"
	"strings"

	"penstock/api"
	"penstock/datum"
	"penstock/expr"
	"penstock/row"
)

// Key is the group that a row is in.
func Key(spec api.Rel, r api.Row) api.Row {
	if spec.Kind == api.RelThreshold {
		return freshRow(r)
	}
	out := make(api.Row, len(spec.Cols))
	for i, c := range spec.Cols {
		out[i] = column(r, c)
	}
	return freshRow(out)
}

func column(r api.Row, c int) api.Datum {
	if 0 <= c && c < len(r) {
		return r[c]
	}
	return null()
}

func freshRow(r api.Row) api.Row {
	out := make(api.Row, len(r))
	for i, d := range r {
		d.Text = strings.Clone(d.Text)
		out[i] = d
	}
	return out
}

// Group is what becomes of a group's rows.
func Group(spec api.Rel, key api.Row, rows []api.Counted) ([]api.Counted, []api.Fault) {
	return reduced(spec, key, row.Sum(rows))
}

// reduced is Group of rows in the form of row.Sum, which are not changed; what it tells may be in their memory.
func reduced(spec api.Rel, key api.Row, rows []api.Counted) ([]api.Counted, []api.Fault) {
	wrong := faults{}
	var out []api.Counted
	switch spec.Kind {
	case api.RelReduce:
		out = aggregated(spec.Aggs, key, rows, wrong)
	case api.RelTop:
		if slices.ContainsFunc(rows, lacks) {
			wrong[api.ErrMirMinus]++
		} else {
			out = first(spec, rows)
		}
	case api.RelThreshold:
		out = present(rows)
	}
	return out, wrong.list()
}

// faults is how often each error is there.
type faults map[api.Errno]int64

func (f faults) list() []api.Fault {
	var out []api.Fault
	for _, e := range slices.Sorted(maps.Keys(f)) {
		if f[e] != 0 {
			out = append(out, api.Fault{Err: e, Count: f[e]})
		}
	}
	return out
}

func lacks(c api.Counted) bool { return c.Count < 0 }

// aggregated is the row that a RelReduce makes of a group, if there is one; what goes wrong is added to wrong.
func aggregated(aggs []api.Agg, key api.Row, rows []api.Counted, wrong faults) []api.Counted {
	asked := make([]api.Counted, 0, len(rows))
	for _, c := range rows {
		values, e := evaluated(aggs, c.Row)
		if e != api.OK {
			wrong[e] += c.Count
			continue
		}
		asked = append(asked, api.Counted{Row: values, Count: c.Count})
	}
	if len(asked) == 0 {
		return nil
	}
	if slices.ContainsFunc(asked, lacks) {
		wrong[api.ErrMirMinus]++
		return nil
	}
	values, e := aggregate(aggs, asked)
	if e != api.OK {
		wrong[e]++
		return nil
	}
	return []api.Counted{{Row: append(freshRow(key), values...), Count: 1}}
}

// evaluated is what each of aggs asks of r.
func evaluated(aggs []api.Agg, r api.Row) (api.Row, api.Errno) {
	out := make(api.Row, len(aggs))
	for i, a := range aggs {
		if a.Func == api.AggCountAll {
			continue // what is at i is no null, so that it counts
		}
		d, e := expr.Eval(a.Expr, r)
		if e != api.OK {
			return nil, e
		}
		out[i] = d
	}
	return out, api.OK
}

// first is the rows that a RelTop leaves, none of which lacks.
func first(spec api.Rel, rows []api.Counted) []api.Counted {
	var out []api.Counted
	skip, room := int64(spec.Offset), int64(spec.Limit)
	for _, c := range slices.SortedFunc(slices.Values(rows), by(spec.Order)) {
		skipped := min(skip, c.Count)
		skip -= skipped
		c.Count -= skipped
		if spec.Limit != all {
			c.Count = min(room, c.Count)
			room -= c.Count
		}
		if c.Count > 0 {
			out = append(out, c)
		}
	}
	slices.SortFunc(out, by(nil))
	return out
}

// by is the comparison of rows by some columns, and then by the whole rows.
func by(order []api.Sort) func(a, b api.Counted) int {
	return func(a, b api.Counted) int {
		for _, s := range order {
			c := datum.Cmp(column(a.Row, s.Col), column(b.Row, s.Col))
			switch {
			case c == 0:
				continue
			case s.Down:
				return -c
			}
			return c
		}
		return row.Cmp(a.Row, b.Row)
	}
}

// present is the rows that occur.
func present(rows []api.Counted) []api.Counted {
	var out []api.Counted
	for _, c := range rows {
		if c.Count > 0 {
			out = append(out, c)
		}
	}
	return out
}
