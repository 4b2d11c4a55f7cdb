package reduce_test

import (
	"math/big"
	"slices"

	"penstock/api"
	"penstock/chain"
	"penstock/datum"
	"penstock/delta"
	"penstock/expr"
	"penstock/reduce"
	rows "penstock/row"
	"penstock/stamp"
)

// plainResult is Group as the chapter describes it, one thing after the other.
func plainResult(spec api.Rel, key api.Row, l []api.Counted) ([]api.Counted, []api.Fault) {
	l = rows.Sum(l)
	wrong := map[api.Errno]int64{}
	var out []api.Counted
	if spec.Kind == api.RelThreshold {
		for _, c := range l {
			if c.Count > 0 {
				out = append(out, c)
			}
		}
		return out, nil
	}
	if spec.Kind == api.RelReduce {
		l = plainValid(spec.Aggs, l, wrong)
	}
	switch {
	case len(l) == 0:
	case slices.ContainsFunc(l, func(c api.Counted) bool { return c.Count < 0 }):
		wrong[api.ErrMirMinus]++
	case spec.Kind == api.RelTop:
		out = plainTop(spec, l)
	default:
		r := slices.Clone(key)
		for _, a := range spec.Aggs {
			d, e := plainValue(a, l)
			if e != api.OK {
				wrong[e]++
				return nil, plainFaults(wrong)
			}
			r = append(r, d)
		}
		out = bag(api.Counted{Row: r, Count: 1})
	}
	return out, plainFaults(wrong)
}

func plainFaults(wrong map[api.Errno]int64) (out []api.Fault) {
	for e, n := range wrong {
		if n != 0 {
			out = append(out, fault(e, n))
		}
	}
	slices.SortFunc(out, func(a, b api.Fault) int { return int(a.Err) - int(b.Err) })
	return out
}

// plainValid is the rows for which no expression fails.
func plainValid(aggs []api.Agg, l []api.Counted, wrong map[api.Errno]int64) (out []api.Counted) {
next:
	for _, c := range l {
		for _, a := range aggs {
			if a.Func == api.AggCountAll {
				continue
			}
			if _, e := expr.Eval(a.Expr, c.Row); e != api.OK {
				wrong[e] += c.Count
				continue next
			}
		}
		out = append(out, c)
	}
	return out
}

func plainValue(a api.Agg, l []api.Counted) (api.Datum, api.Errno) {
	number, count, exact := true, big.NewInt(0), big.NewInt(0)
	var seen []api.Datum
	for _, c := range l {
		d, n := num(0), big.NewInt(c.Count)
		if a.Func != api.AggCountAll {
			d, _ = expr.Eval(a.Expr, c.Row)
		}
		known := slices.ContainsFunc(seen, func(x api.Datum) bool { return datum.Cmp(x, d) == 0 })
		if d.Kind == api.KindNull || a.Func != api.AggCountAll && a.Distinct && known {
			continue
		}
		if a.Distinct && a.Func != api.AggCountAll {
			n = big.NewInt(1)
		}
		seen = append(seen, d)
		number = number && d.Kind == api.KindInt
		count.Add(count, n)
		exact.Add(exact, n.Mul(n, big.NewInt(d.Int)))
	}
	slices.SortFunc(seen, datum.Cmp)
	switch {
	case a.Func == api.AggCountAll || a.Func == api.AggCount:
		return num(int64(count.And(count, new(big.Int).SetUint64(1<<64-1)).Uint64())), api.OK
	case len(seen) == 0:
		return null(), api.OK
	case a.Func == api.AggMin:
		return seen[0], api.OK
	case a.Func == api.AggMax:
		return seen[len(seen)-1], api.OK
	case !number:
		return api.Datum{}, api.ErrExprType
	case !exact.IsInt64():
		return api.Datum{}, api.ErrDatumOver
	}
	return num(exact.Int64()), api.OK
}

// plainTop says of each row how much of it lies between Offset and the end.
func plainTop(spec api.Rel, l []api.Counted) (out []api.Counted) {
	cell := func(r api.Row, c int) api.Datum { return reduce.Key(by(cols(c)), r)[0] }
	ahead := func(a, b api.Row) int {
		for _, s := range spec.Order {
			if c := datum.Cmp(cell(a, s.Col), cell(b, s.Col)); c != 0 {
				if s.Down {
					return -c
				}
				return c
			}
		}
		return rows.Cmp(a, b)
	}
	first, last := big.NewInt(int64(spec.Offset)), new(big.Int).Lsh(big.NewInt(1), 100)
	if spec.Limit >= 0 {
		last.Add(first, big.NewInt(int64(spec.Limit)))
	}
	for _, c := range l {
		start := big.NewInt(0)
		for _, other := range l {
			if ahead(other.Row, c.Row) < 0 {
				start.Add(start, big.NewInt(other.Count))
			}
		}
		end := new(big.Int).Add(start, big.NewInt(c.Count))
		if start.Cmp(first) < 0 {
			start = first
		}
		if end.Cmp(last) > 0 {
			end = last
		}
		if n := new(big.Int).Sub(end, start); n.Sign() > 0 {
			out = append(out, api.Counted{Row: c.Row, Count: n.Int64()})
		}
	}
	return out
}

// model is a Reduce as the chapter describes it: everything is worked out anew each time.
type model struct {
	spec   api.Rel
	groups []*plainGroup
}

type plainGroup struct {
	key               api.Row
	pushed, told, bad []api.Update
	waits             []api.Time
}

func (m *model) group(of api.Row) *plainGroup {
	key := reduce.Key(m.spec, of)
	for _, g := range m.groups {
		if rows.Cmp(g.key, key) == 0 {
			return g
		}
	}
	m.groups = append(m.groups, &plainGroup{key: key})
	return m.groups[len(m.groups)-1]
}

func has(l []api.Time, t api.Time) bool {
	return slices.ContainsFunc(l, func(x api.Time) bool { return stamp.Cmp(x, t) == 0 })
}

// joined is times with all joins of several of them.
func joined(l []api.Update) (out []api.Time) {
	for _, u := range l {
		if !has(out, u.Time) {
			out = append(out, u.Time)
		}
	}
	for i := 0; i < len(out); i++ {
		for k := range i {
			if j, e := stamp.Join(out[i], out[k]); e == api.OK && !has(out, j) {
				out = append(out, j)
			}
		}
	}
	return out
}

func (m *model) push(l []api.Update) (come []api.Time) {
	before := m.waiting()
	for _, u := range l {
		g := m.group(u.Row)
		g.pushed = append(g.pushed, u)
	}
	for _, u := range l {
		g := m.group(u.Row)
		for _, t := range joined(g.pushed) {
			if stamp.Leq(u.Time, t) && !has(g.waits, t) {
				g.waits = append(g.waits, t)
			}
		}
	}
	for _, t := range m.waiting() {
		if !has(before, t) {
			come = append(come, t)
		}
	}
	return come
}

func (m *model) waiting() (out []api.Time) {
	for _, g := range m.groups {
		for _, t := range g.waits {
			if !has(out, t) {
				out = append(out, t)
			}
		}
	}
	slices.SortFunc(out, stamp.Cmp)
	return out
}

func negative(l []api.Counted) []api.Counted {
	out := slices.Clone(l)
	for i := range out {
		out[i].Count = -out[i].Count
	}
	return out
}

func asUpdates(l []api.Counted, t api.Time) (out []api.Update) {
	for _, c := range l {
		out = append(out, api.Update{Row: c.Row, Time: t, Diff: c.Count})
	}
	return out
}

func asRows(l []api.Fault) (out []api.Counted) {
	for _, f := range l {
		out = append(out, times(f.Count, num(int64(f.Err))))
	}
	return out
}

func (m *model) close(frontier []api.Time) (told, bad []api.Update) {
	for _, t := range m.waiting() {
		if chain.Beyond(frontier, t) {
			continue
		}
		for _, g := range m.groups {
			if !has(g.waits, t) {
				continue
			}
			l, wrong := plainResult(m.spec, g.key, delta.At(g.pushed, t))
			come := asUpdates(slices.Concat(l, negative(delta.At(g.told, t))), t)
			off := asUpdates(slices.Concat(asRows(wrong), negative(delta.At(g.bad, t))), t)
			g.told, g.bad = slices.Concat(g.told, come), slices.Concat(g.bad, off)
			told, bad = slices.Concat(told, come), slices.Concat(bad, off)
			g.waits = slices.DeleteFunc(g.waits, func(x api.Time) bool { return stamp.Cmp(x, t) == 0 })
		}
	}
	return delta.Sum(told), delta.Sum(bad)
}

// result is what Group makes of all groups of updates, at a time.
func result(spec api.Rel, l []api.Update, t api.Time) (out, wrong []api.Counted) {
	m := model{spec: spec}
	for _, u := range l {
		g := m.group(u.Row)
		g.pushed = append(g.pushed, u)
	}
	for _, g := range m.groups {
		there, bad := reduce.Group(spec, g.key, delta.At(g.pushed, t))
		out, wrong = slices.Concat(out, there), slices.Concat(wrong, asRows(bad))
	}
	return rows.Sum(out), rows.Sum(wrong)
}
