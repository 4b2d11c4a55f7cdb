package delta_test

import (
	"math"
	"testing"

	"penstock/api"
	"penstock/delta"
)

func bags(l ...[]api.Counted) [][]api.Counted { return l }

func TestOf(t *testing.T) {
	one, two := counted(1, num(1)), counted(1, num(2))
	marked := api.Datum{Kind: api.KindInt, Int: 1, Bool: true}
	square := list(at(0, 0), at(0, 1), at(1, 0), at(1, 1))
	for name, x := range map[string]struct {
		times []api.Time
		bags  [][]api.Counted
		want  []api.Update
	}{
		"nothing":           {nil, nil, nil},
		"the document":      {list(at(1), at(2)), bags(bag(one), bag(one, two)), updates(update(1, at(1), num(1)), update(1, at(2), num(2)))},
		"in any order":      {list(at(2), at(1)), bags(bag(one, two), bag(one)), updates(update(1, at(1), num(1)), update(1, at(2), num(2)))},
		"what goes":         {list(at(1), at(2), at(3)), bags(bag(one), nil, bag(one)), updates(update(1, at(1), num(1)), update(-1, at(2), num(1)), update(1, at(3), num(1)))},
		"no sums":           {list(at(1), at(2)), bags(bag(one, two, one, counted(0, num(3)), counted(-1, num(2))), bag(counted(2, num(1)))), updates(update(2, at(1), num(1)))},
		"empty bags":        {list(at(1), at(2)), bags(nil, nil), nil},
		"a row at first":    {square, bags(bag(one), bag(one), bag(one), bag(one)), updates(update(1, at(0, 0), num(1)))},
		"from two on":       {square, bags(nil, bag(one), bag(one), bag(one)), updates(update(1, at(0, 1), num(1)), update(1, at(1, 0), num(1)), update(-1, at(1, 1), num(1)))},
		"from two, twice":   {square, bags(nil, bag(one), bag(one), bag(counted(2, num(1)))), updates(update(1, at(0, 1), num(1)), update(1, at(1, 0), num(1)))},
		"joins alone":       {list(at(0, 1), at(1, 0), at(1, 1)), bags(bag(one), bag(two), nil), updates(update(1, at(0, 1), num(1)), update(-1, at(1, 1), num(1)), update(1, at(1, 0), num(2)), update(-1, at(1, 1), num(2)))},
		"a greater one":     {list(at(0, 1), at(1, 0), at(1, 1), at(2, 2)), bags(bag(one), bag(two), nil, bag(two)), updates(update(1, at(0, 1), num(1)), update(-1, at(1, 1), num(1)), update(1, at(1, 0), num(2)), update(-1, at(1, 1), num(2)), update(1, at(2, 2), num(2)))},
		"of several kinds":  {list(at(1), at(1, 0), at(0, 0, 0)), bags(bag(one), bag(two), bag(one)), updates(update(1, at(1), num(1)), update(1, at(0, 0, 0), num(1)), update(1, at(1, 0), num(2)))},
		"wraps round":       {list(at(1), at(2)), bags(bag(counted(math.MinInt64)), bag(counted(math.MaxInt64))), updates(update(math.MinInt64, at(1)), update(-1, at(2)))},
		"negates the least": {list(at(1), at(2)), bags(bag(counted(math.MinInt64)), nil), updates(update(math.MinInt64, at(1)), update(math.MinInt64, at(2)))},
		"of no kind":        {list(at(1), at(2)), bags(bag(counted(1, api.Datum{Kind: 8})), bag(counted(1, api.Datum{Kind: 9}))), updates(update(1, at(1), api.Datum{Kind: 8}), update(-1, at(2), api.Datum{Kind: 8}), update(1, at(2), api.Datum{Kind: 9}))},
		"equal rows":        {list(at(1), at(2)), bags(bag(one), bag(counted(1, marked))), updates(update(1, at(1), num(1)))},
		"any depth":         {list(at(1, 1, 1, 1, 1), at(1, 1, 1, 1, 2)), bags(bag(one), nil), updates(update(1, at(1, 1, 1, 1, 1), num(1)), update(-1, at(1, 1, 1, 1, 2), num(1)))},

		"fewer bags":           {list(at(1), at(2)), bags(bag(one)), nil},
		"fewer times":          {list(at(1)), bags(bag(one), bag(two)), nil},
		"no times":             {nil, bags(bag(one)), nil},
		"a time twice":         {list(at(1), at(2), at(1)), bags(bag(one), bag(two), bag(one)), nil},
		"twice in loops":       {list(at(1, 2), at(1, 2)), bags(bag(one), bag(one)), nil},
		"a join lacks":         {list(at(0, 1), at(1, 0)), bags(bag(one), bag(one)), nil},
		"one of three lacks":   {list(at(0, 2), at(1, 1), at(2, 0), at(1, 2), at(2, 1)), bags(bag(one), bag(one), bag(one), bag(one), bag(one)), nil},
		"another of three":     {list(at(0, 2), at(1, 1), at(2, 0), at(1, 2), at(2, 2)), bags(bag(one), bag(one), bag(one), bag(one), bag(one)), nil},
		"the first of three":   {list(at(0, 2), at(1, 1), at(2, 0), at(2, 1), at(2, 2)), bags(bag(one), bag(one), bag(one), bag(one), bag(one)), nil},
		"lacks late":           {list(at(0, 1), at(1, 0), at(1, 1), at(2, 0)), bags(bag(one), bag(one), bag(one), bag(one)), nil},
		"lacks in deep loops":  {list(at(7), at(0, 0, 1), at(0, 1, 0), at(1, 0, 0), at(0, 1, 1), at(1, 0, 1), at(1, 1, 0)), bags(bag(one), nil, nil, nil, nil, nil, nil), nil},
		"lacks with bags none": {list(at(0, 1), at(1, 0)), bags(nil, nil), nil},
	} {
		if got := delta.Of(x.times, x.bags); !sameUpdates(got, x.want) {
			t.Errorf("%s: Of(%v, %v) = %v, want %v", name, x.times, x.bags, got, x.want)
		}
	}
}

// Without one of the joins of a cube's edges there is no answer; with all there is.
func TestOfNeedsAllJoins(t *testing.T) {
	cube := list(at(0, 0, 1), at(0, 1, 0), at(0, 1, 1), at(1, 0, 0), at(1, 0, 1), at(1, 1, 0), at(1, 1, 1))
	row := bag(counted(1))
	for i, left := range cube {
		var times []api.Time
		var there [][]api.Counted
		for j, x := range cube {
			if i != j {
				times, there = append(times, x), append(there, row)
			}
		}
		some := len(delta.Of(times, there)) > 0
		if edge := left.Epoch+uint64(left.Loops[0]+left.Loops[1]) == 1; some != edge {
			t.Errorf("Of times without %v: updates: %v", left, some)
		}
	}
}
