package reduce

import (
	"math/bits"
	"slices"

	"penstock/api"
	"penstock/datum"
)

// value is what an aggregation considers, and how often.
type value struct {
	api.Datum
	count int64
}

// aggregation makes one datum of values, none of which is null.
type aggregation func(values []value) (api.Datum, api.Errno)

func aggregations() map[uint8]aggregation {
	return map[uint8]aggregation{
		api.AggCountAll: number,
		api.AggCount:    number,
		api.AggSum:      sum,
		api.AggMin:      utmost(-1),
		api.AggMax:      utmost(1),
	}
}

// aggregate is what aggs make of rows in each of which is, at each place, what the aggregation of that place asks for.
func aggregate(aggs []api.Agg, rows []api.Counted) (api.Row, api.Errno) {
	var out api.Row
	table := aggregations()
	for i, a := range aggs {
		f, found := table[a.Func]
		if !found {
			return nil, api.ErrReduceForm
		}
		d, e := f(considered(a, i, rows))
		if e != api.OK {
			return nil, e
		}
		out = append(out, d)
	}
	return out, api.OK
}

// considered is what a considers of the data at i of rows.
func considered(a api.Agg, i int, rows []api.Counted) []value {
	values := make([]value, 0, len(rows))
	for _, c := range rows {
		if c.Row[i].Kind != api.KindNull {
			values = append(values, value{c.Row[i], c.Count})
		}
	}
	if a.Distinct && a.Func != api.AggCountAll {
		return distinct(values)
	}
	return values
}

// distinct is each of values once.
func distinct(values []value) []value {
	compare := func(a, b value) int { return datum.Cmp(a.Datum, b.Datum) }
	slices.SortStableFunc(values, compare)
	values = slices.CompactFunc(values, func(a, b value) bool { return compare(a, b) == 0 })
	for i := range values {
		values[i].count = 1
	}
	return values
}

func null() api.Datum { return api.Datum{Kind: api.KindNull} }

func integer(n int64) api.Datum { return api.Datum{Kind: api.KindInt, Int: n} }

func number(values []value) (api.Datum, api.Errno) {
	n := int64(0)
	for _, v := range values {
		n += v.count
	}
	return integer(n), api.OK
}

func sum(values []value) (api.Datum, api.Errno) {
	if len(values) == 0 {
		return null(), api.OK
	}
	var exact total
	for _, v := range values {
		if v.Kind != api.KindInt || datum.Check(v.Datum) != api.OK {
			return api.Datum{}, api.ErrExprType
		}
		exact.add(v.Int, v.count)
	}
	n, fits := exact.number()
	if !fits {
		return api.Datum{}, api.ErrDatumOver
	}
	return integer(n), api.OK
}

// utmost is the value that stands on one side of all others: the smallest one (-1), or the greatest (1).
func utmost(side int) aggregation {
	return func(values []value) (api.Datum, api.Errno) {
		if len(values) == 0 {
			return null(), api.OK
		}
		out := values[0].Datum
		for _, v := range values[1:] {
			if datum.Cmp(v.Datum, out) == side {
				out = v.Datum
			}
		}
		return out, api.OK
	}
}

// total is an exact sum, the lowest bits first, in two's complement: a product has 127 bits, and so many rows that 192 are not enough cannot be.
type total [3]uint64

// add adds n as often as that, which is not below 0.
func (t *total) add(n, often int64) {
	high, low := bits.Mul64(magnitude(n), uint64(often))
	var carry uint64
	if n < 0 {
		t[0], carry = bits.Sub64(t[0], low, 0)
		t[1], carry = bits.Sub64(t[1], high, carry)
		t[2] -= carry
		return
	}
	t[0], carry = bits.Add64(t[0], low, 0)
	t[1], carry = bits.Add64(t[1], high, carry)
	t[2] += carry
}

func magnitude(n int64) uint64 {
	if n < 0 {
		return -uint64(n)
	}
	return uint64(n)
}

// number says, too, whether t is one of 64 bits.
func (t *total) number() (int64, bool) {
	n := int64(t[0])
	sign := uint64(n >> 63)
	return n, t[1] == sign && t[2] == sign
}
