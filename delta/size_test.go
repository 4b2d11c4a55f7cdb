package delta_test

import (
	"testing"

	"penstock/api"
	"penstock/delta"
)

func TestSumOfManyUpdates(t *testing.T) {
	const n = 100000
	var l []api.Update
	for i := range n {
		l = append(l, update(1, at(uint64(i%1000)), num(int64(i/1000)), text("some text")), update(-1, at(uint64(i%7)), num(int64(i/1000))), update(1, at(uint64(i%7)), num(int64(i/1000))))
	}
	got := delta.Sum(l)
	if len(got) != n {
		t.Fatalf("%d updates", len(got))
	}
	for i, u := range got {
		if u.Diff != 1 || u.Time.Epoch != uint64(i%1000) || u.Row[0] != num(int64(i/1000)) {
			t.Fatalf("update %d is %v", i, u)
		}
	}
	if got := delta.Advance(l, list(at(5000))); len(got) != n/1000 || got[3].Diff != 1000 {
		t.Errorf("%d updates", len(got))
	}
}

// At each of the many joins of 200 times is what a few updates come to.
func TestOfAllJoinsOfManyTimes(t *testing.T) {
	l := moments(descending(200)...)
	times := delta.Times(l)
	var there [][]api.Counted
	for _, x := range times {
		there = append(there, delta.At(l, x))
	}
	if got := delta.Of(times, there); !sameUpdates(got, delta.Sum(l)) {
		t.Errorf("%d updates", len(got))
	}
	last := len(times) - 1 // the join of the first one and the last one
	times[last].Epoch++
	if got := delta.Of(times, there); len(got) > 0 {
		t.Errorf("%d updates, though a join lacks", len(got))
	}
}

// Each of many epochs changes a large bag in one row.
func TestOfManyEpochs(t *testing.T) {
	const n, rows = 3000, 20
	var times []api.Time
	var there [][]api.Counted
	for i := range n {
		var b []api.Counted
		for k := range rows {
			b = append(b, counted(1, num(int64(i+k))))
		}
		times, there = append(times, at(uint64(n-i))), append(there, b)
	}
	got := delta.Of(times, there)
	if len(got) != rows+2*(n-1) {
		t.Fatalf("%d updates", len(got))
	}
	if first, last := got[0], got[len(got)-1]; !sameUpdates(updates(first, last), updates(update(1, at(n), num(0)), update(-1, at(2), num(n+rows-2)))) {
		t.Errorf("from %v to %v", first, last)
	}
}
