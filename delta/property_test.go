package delta_test

import (
	"math"
	"math/rand/v2"
	"slices"
	"testing"

	"penstock/api"
	"penstock/chain"
	"penstock/delta"
	"penstock/row"
	"penstock/stamp"
)

// someTime is a time of that depth whose Epoch and counters are below bound.
func someTime(r *rand.Rand, depth, bound int) api.Time {
	t := at(uint64(r.IntN(bound)))
	for range depth {
		t.Loops = append(t.Loops, uint32(r.IntN(bound)))
	}
	return t
}

// someRow is a row of few columns, now and then one that may not be, often one that was there before.
func someRow(r *rand.Rand) api.Row {
	some := []api.Datum{null(), truth(false), truth(true), num(0), num(1), num(-12), text(""), text("a"), text("\xff"), {}, {Kind: 5}, {Kind: api.KindNull, Int: 3}}
	var out api.Row
	for range r.IntN(3) {
		out = append(out, some[r.IntN(len(some))])
	}
	return out
}

func someDiff(r *rand.Rand) int64 {
	if r.IntN(20) == 0 {
		return []int64{math.MinInt64, math.MaxInt64, math.MinInt64 + 1, 1 << 62}[r.IntN(4)]
	}
	return int64(r.IntN(5) - 2)
}

// someUpdates is updates whose times have depths up to 3.
func someUpdates(r *rand.Rand, n, bound int) []api.Update {
	out := make([]api.Update, n)
	for i := range out {
		out[i] = api.Update{Row: someRow(r), Time: someTime(r, r.IntN(4), bound), Diff: someDiff(r)}
	}
	return out
}

// plainSum is what Sum answers, found by holding each update against all before it.
func plainSum(l []api.Update) []api.Update {
	var out []api.Update
	for _, u := range l {
		i := slices.IndexFunc(out, func(x api.Update) bool { return row.Cmp(x.Row, u.Row) == 0 && stamp.Cmp(x.Time, u.Time) == 0 })
		if i < 0 {
			out = append(out, u)
		} else {
			out[i].Diff += u.Diff
		}
	}
	out = slices.DeleteFunc(out, func(u api.Update) bool { return u.Diff == 0 })
	slices.SortStableFunc(out, func(a, b api.Update) int { return stamp.Cmp(a.Time, b.Time) })
	slices.SortStableFunc(out, func(a, b api.Update) int { return row.Cmp(a.Row, b.Row) })
	return out
}

// equal says whether updates are the same, whichever of the equal rows' data they have.
func equal(a, b []api.Update) bool {
	return slices.EqualFunc(a, b, func(x, y api.Update) bool {
		return x.Diff == y.Diff && stamp.Cmp(x.Time, y.Time) == 0 && row.Cmp(x.Row, y.Row) == 0
	})
}

func equalBag(a, b []api.Counted) bool {
	return slices.EqualFunc(a, b, func(x, y api.Counted) bool { return x.Count == y.Count && row.Cmp(x.Row, y.Row) == 0 })
}

// seen is times of all depths to look from.
func seen(bound uint32) []api.Time {
	out, last := []api.Time{}, []api.Time{}
	for epoch := range bound {
		last = append(last, at(uint64(epoch)))
	}
	for range 4 {
		out = append(out, last...)
		var deeper []api.Time
		for _, t := range last {
			for n := range bound {
				deeper = append(deeper, at(t.Epoch, append(slices.Clone(t.Loops), n)...))
			}
		}
		last = deeper
	}
	return out
}

func TestSumIsThatOfThePlainModel(t *testing.T) {
	r := rand.New(rand.NewPCG(10, 1))
	for range 300 {
		l := someUpdates(r, r.IntN(200), 1+r.IntN(4))
		if got, want := delta.Sum(l), plainSum(l); !sameUpdates(got, want) {
			t.Fatalf("Sum(%v) = %v, want %v", l, got, want)
		}
	}
}

func TestSumDoesNotDependOnOrderAndDivision(t *testing.T) {
	r := rand.New(rand.NewPCG(10, 2))
	for range 200 {
		l := someUpdates(r, r.IntN(200), 1+r.IntN(4))
		want := delta.Sum(l)
		r.Shuffle(len(l), func(i, j int) { l[i], l[j] = l[j], l[i] })
		if got := delta.Sum(l); !equal(got, want) {
			t.Fatalf("in another order %v, want %v", got, want)
		}
		cut := r.IntN(len(l) + 1)
		if got := delta.Sum(slices.Concat(delta.Sum(l[:cut]), delta.Sum(l[cut:]))); !equal(got, want) {
			t.Fatalf("of two parts %v, want %v", got, want)
		}
		if got := delta.Sum(want); !sameUpdates(got, want) {
			t.Fatalf("Sum of a Sum %v, want %v", got, want)
		}
	}
}

// plainAt is what At answers, each row of l at a time.
func plainAt(l []api.Update, t api.Time) []api.Counted {
	var out []api.Counted
	for _, u := range l {
		if stamp.Leq(u.Time, t) {
			out = append(out, api.Counted{Row: u.Row, Count: u.Diff})
		}
	}
	return row.Sum(out)
}

func TestAtOfSumIsAt(t *testing.T) {
	r := rand.New(rand.NewPCG(10, 3))
	from := seen(3)
	for range 60 {
		l := someUpdates(r, r.IntN(60), 3)
		sum := delta.Sum(l)
		for _, x := range from {
			want := plainAt(l, x)
			if got := delta.At(l, x); !sameBag(got, want) {
				t.Fatalf("At(%v, %v) = %v, want %v", l, x, got, want)
			}
			if got := delta.At(sum, x); !equalBag(got, want) {
				t.Fatalf("At(Sum(%v), %v) = %v, want %v", l, x, got, want)
			}
		}
	}
}

func TestAtOfAdvanceIsAtBeyondSince(t *testing.T) {
	r := rand.New(rand.NewPCG(10, 4))
	from := seen(4)
	beyond := 0
	for range 80 {
		l := someUpdates(r, r.IntN(60), 3)
		var since []api.Time
		for range r.IntN(5) {
			since = append(since, someTime(r, r.IntN(4), 3))
		}
		advanced := delta.Advance(l, since)
		if got := delta.Sum(advanced); !sameUpdates(got, advanced) {
			t.Fatalf("Advance(%v, %v) = %v is not in the form of Sum", l, since, advanced)
		}
		for _, x := range from {
			if !chain.Beyond(since, x) {
				continue
			}
			beyond++
			if got, want := delta.At(advanced, x), delta.At(l, x); !equalBag(got, want) {
				t.Fatalf("Advance(%v, %v) comes to %v at %v, want %v", l, since, got, x, want)
			}
		}
	}
	if beyond < 1000 {
		t.Errorf("only %d times were beyond", beyond)
	}
}

// plainTimes is the joins of all parts of l that have one depth.
func plainTimes(l []api.Time) []api.Time {
	var out []api.Time
	for part := 1; part < 1<<len(l); part++ {
		var join api.Time
		e, some := api.OK, false
		for i, x := range l {
			switch {
			case part&(1<<i) == 0 || e != api.OK:
			case some:
				join, e = stamp.Join(join, x)
			default:
				join, some = x, true
			}
		}
		if e == api.OK && !slices.ContainsFunc(out, func(x api.Time) bool { return stamp.Cmp(x, join) == 0 }) {
			out = append(out, join)
		}
	}
	slices.SortFunc(out, stamp.Cmp)
	return out
}

func TestTimesAreAllJoins(t *testing.T) {
	r := rand.New(rand.NewPCG(10, 5))
	for range 1500 {
		var l []api.Time
		least := r.IntN(4)
		for range r.IntN(9) {
			l = append(l, someTime(r, least+r.IntN(4-least), 5))
		}
		if got, want := delta.Times(moments(l...)), plainTimes(l); !sameTimes(got, want) {
			t.Fatalf("Times of %v are %v, want %v", l, got, want)
		}
	}
}

func TestOfWhatIsAtAllTimesIsSum(t *testing.T) {
	r := rand.New(rand.NewPCG(10, 6))
	for range 150 {
		l := someUpdates(r, r.IntN(25), 1+r.IntN(6))
		times := delta.Times(l)
		r.Shuffle(len(times), func(i, j int) { times[i], times[j] = times[j], times[i] })
		var there [][]api.Counted
		for _, x := range times {
			there = append(there, delta.At(l, x))
		}
		if got, want := delta.Of(times, there), delta.Sum(l); !equal(got, want) {
			t.Fatalf("Of at %v is %v, want %v", times, got, want)
		}
	}
}

// someBag is rows, not summed.
func someBag(r *rand.Rand) []api.Counted {
	var out []api.Counted
	for range r.IntN(6) {
		out = append(out, api.Counted{Row: someRow(r), Count: someDiff(r)})
	}
	return out
}

func TestOfComesToTheBags(t *testing.T) {
	r := rand.New(rand.NewPCG(10, 7))
	for range 150 {
		times := delta.Times(someUpdates(r, 1+r.IntN(25), 1+r.IntN(5)))
		r.Shuffle(len(times), func(i, j int) { times[i], times[j] = times[j], times[i] })
		var there [][]api.Counted
		for range times {
			there = append(there, someBag(r))
		}
		got := delta.Of(times, there)
		if sum := delta.Sum(got); !sameUpdates(got, sum) {
			t.Fatalf("Of(%v, %v) = %v is not in the form of Sum", times, there, got)
		}
		for _, u := range got {
			if !slices.ContainsFunc(times, func(x api.Time) bool { return stamp.Cmp(x, u.Time) == 0 }) {
				t.Fatalf("Of(%v, %v) has an update at %v", times, there, u.Time)
			}
		}
		for i, x := range times {
			if at, want := delta.At(got, x), row.Sum(there[i]); !equalBag(at, want) {
				t.Fatalf("Of(%v, %v) comes to %v at %v, want %v", times, there, at, x, want)
			}
		}
	}
}

// whole says whether l has no time twice, and the join of any two of one depth.
func whole(l []api.Time) bool {
	for i, x := range l {
		for _, y := range l[i+1:] {
			j, e := stamp.Join(x, y)
			if stamp.Cmp(x, y) == 0 || e == api.OK && !slices.ContainsFunc(l, func(t api.Time) bool { return stamp.Cmp(t, j) == 0 }) {
				return false
			}
		}
	}
	return true
}

func TestOfNeedsWholeTimes(t *testing.T) {
	r := rand.New(rand.NewPCG(10, 8))
	found := map[bool]int{}
	for range 4000 {
		l := delta.Times(moments(someTime(r, 1, 3), someTime(r, 1, 3), someTime(r, 2, 2), someTime(r, 2, 2), someTime(r, 2, 2), someTime(r, 0, 3)))
		for range r.IntN(3) {
			i := r.IntN(len(l))
			l = slices.Delete(l, i, i+1)
		}
		if r.IntN(10) == 0 {
			l = append(l, l[0])
		}
		var there [][]api.Counted
		for i := range l {
			there = append(there, bag(counted(1, num(int64(i)))))
		}
		want := whole(l)
		found[want]++
		if got := delta.Of(l, there); (len(got) > 0) != want {
			t.Fatalf("Of at %v is %v; whole: %v", l, got, want)
		}
	}
	if found[true] < 100 || found[false] < 100 {
		t.Errorf("whole or not: %v", found)
	}
}
