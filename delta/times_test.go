package delta_test

import (
	"math"
	"testing"

	"penstock/api"
	"penstock/delta"
)

// moments is an update at each time.
func moments(l ...api.Time) []api.Update {
	var out []api.Update
	for i, t := range l {
		out = append(out, update(int64(i%3-1), t, num(int64(i%7))))
	}
	return out
}

func TestTimes(t *testing.T) {
	for _, x := range []struct{ l, want []api.Time }{
		{nil, nil},
		{list(at(1, 2), at(2, 1)), list(at(1, 2), at(2, 1), at(2, 2))},
		{list(at(5), at(3), at(5), at(3)), list(at(3), at(5))},
		{list(at(2, 1)), list(at(2, 1))},
		{list(at(2, 1), at(1, 2), at(2, 2), at(1, 2)), list(at(1, 2), at(2, 1), at(2, 2))},
		{list(at(1, 2), at(2, 3)), list(at(1, 2), at(2, 3))},
		{list(at(0, 2), at(2, 0), at(1, 1)), list(at(0, 2), at(1, 1), at(1, 2), at(2, 0), at(2, 1), at(2, 2))},
		// Of three times a join that is none of two of them.
		{list(at(0, 0, 1), at(0, 1, 0), at(1, 0, 0)), list(at(0, 0, 1), at(0, 1, 0), at(0, 1, 1), at(1, 0, 0), at(1, 0, 1), at(1, 1, 0), at(1, 1, 1))},
		{list(at(1, 0, 0, 0), at(0, 2, 0, 0), at(0, 0, 3, 0), at(0, 0, 0, 4)), list(
			at(0, 0, 0, 4), at(0, 0, 3, 0), at(0, 0, 3, 4), at(0, 2, 0, 0), at(0, 2, 0, 4), at(0, 2, 3, 0), at(0, 2, 3, 4),
			at(1, 0, 0, 0), at(1, 0, 0, 4), at(1, 0, 3, 0), at(1, 0, 3, 4), at(1, 2, 0, 0), at(1, 2, 0, 4), at(1, 2, 3, 0), at(1, 2, 3, 4))},
		// Times of other depths are joined with none of this one.
		{list(at(9), at(1, 2), at(0, 5, 5), at(2, 1), at(8)), list(at(8), at(9), at(1, 2), at(2, 1), at(2, 2), at(0, 5, 5))},
		{list(at(1, 1, 1, 1, 2), at(1, 1, 1, 2, 1)), list(at(1, 1, 1, 1, 2), at(1, 1, 1, 2, 1), at(1, 1, 1, 2, 2))},
		{list(at(math.MaxUint64, 0), at(0, math.MaxUint32)), list(at(0, math.MaxUint32), at(math.MaxUint64, 0), at(math.MaxUint64, math.MaxUint32))},
	} {
		if got := delta.Times(moments(x.l...)); !sameTimes(got, x.want) {
			t.Errorf("Times of updates at %v are %v, want %v", x.l, got, x.want)
		}
	}
}

// A time counts even if what is there comes to nothing.
func TestTimesOfNoChange(t *testing.T) {
	l := updates(update(0, at(1, 2)), update(1, at(2, 1)), update(-1, at(2, 1)))
	if got, want := delta.Times(l), list(at(1, 2), at(2, 1), at(2, 2)); !sameTimes(got, want) {
		t.Errorf("%v, want %v", got, want)
	}
}

// descending is n times none of which is Leq another one.
func descending(n int) []api.Time {
	var out []api.Time
	for i := range n {
		out = append(out, at(uint64(n-i), uint32(i)))
	}
	return out
}

func TestTimesOfVeryManyUpdates(t *testing.T) {
	var ascending []api.Time
	for i := range 100 {
		ascending = append(ascending, at(uint64(i)), at(uint64(i), 0))
	}
	for name, x := range map[string]struct {
		l    []api.Time
		want int
	}{
		"ascending":          {ascending, 200},
		"each twice":         {append(ascending, ascending...), 200},
		"one more":           {append(ascending, at(100)), 0},
		"one more, in loops": {append(ascending, at(0, 0, 0)), 0},
		"with joins":         {descending(200), 200 + 200*199/2},
		"with joins, twice":  {append(descending(200), descending(200)...), 200 + 200*199/2},
		"one more with them": {descending(201), 0},
		"a join as well":     {append(descending(199), at(199, 198)), 199 + 199*198/2},
		"two joins":          {append(descending(199), at(199, 198), at(199, 197)), 0},
	} {
		got := delta.Times(moments(x.l...))
		if len(got) != x.want {
			t.Errorf("%s: %d times, want %d", name, len(got), x.want)
		}
	}
}
