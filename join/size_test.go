package join_test

import (
	"math"
	"testing"

	"penstock/api"
)

// rows is n updates of an epoch, each with a row of its own, from a number on.
func rows(epoch uint64, from, n int64) []api.Update {
	var out []api.Update
	for i := range n {
		out = append(out, of(at(epoch), 1, num(from+i), text("some text")))
	}
	return out
}

// Each of very many rows matches one.
func TestManyRows(t *testing.T) {
	const n = 100000
	j := by(t, cols(0), cols(0))
	if got := j.Push(rows(1, 0, n), rows(2, n/2, n)); len(got) != n/2 || got[0].Time.Epoch != 2 || got[0].Row[2] != num(n/2) {
		t.Fatalf("%d updates", len(got))
	}
	has(t, j, 2*n)
	for i := range int64(n) {
		got := j.Push(nil, rows(3, i, 1))
		if len(got) != 1 || got[0].Row[0] != num(i) || got[0].Time.Epoch != 3 {
			t.Fatalf("%v", got)
		}
	}
	has(t, j, 3*n)
	j.Compact(list(at(3)))
	has(t, j, 2*n+n/2)
}

// Very many rows match one another, and come one by one, and go.
func TestManyRowsOfOneGroup(t *testing.T) {
	const n = 50000
	j := by(t, nil, nil)
	for i := range int64(n) {
		if got := j.Push(rows(0, i*7919%n, 1), nil); len(got) > 0 {
			t.Fatalf("%v", got)
		}
	}
	if got := j.Push(nil, once(nums(1))); len(got) != n || got[n-1].Row[0] != num(n-1) {
		t.Fatalf("%d updates", len(got))
	}
	has(t, j, n+1)
	for i := range int64(n) {
		u := rows(0, i, 1)
		u[0].Diff = -1
		if got := j.Push(u, nil); len(got) != 1 || got[0].Diff != -1 || got[0].Row[0] != num(i) {
			t.Fatalf("%v", got)
		}
	}
	has(t, j, 1)
}

// Very many pairs come to few updates.
func TestManyPairsOfFewRows(t *testing.T) {
	const n = 700
	var l []api.Update
	for i := range uint64(n) {
		l = append(l, up(i, 1, 1))
	}
	j := by(t, nil, nil)
	got := j.Push(l, l)
	if len(got) != n {
		t.Fatalf("%d updates", len(got))
	}
	for i, u := range got { // of the pairs, so many have this as the later time
		if u.Time.Epoch != uint64(i) || u.Diff != int64(2*i+1) {
			t.Fatalf("%v", u)
		}
	}
}

// One side has single rows of its groups, the other one changes them again and again, and is compacted behind that.
func TestManyEpochs(t *testing.T) {
	const n, groups = 30000, 100
	j := by(t, cols(0), cols(0))
	j.Push(rows(0, 0, groups), nil)
	for i := range uint64(n) {
		key := int64(i % groups)
		got := j.Push(nil, updates(up(i, -1, key), up(i, 2, key)))
		if len(got) != 1 || got[0].Time.Epoch != i || got[0].Diff != 1 {
			t.Fatalf("%v", got)
		}
		if i%1000 == 999 {
			j.Compact(list(at(i)))
			has(t, j, 2*groups)
		}
	}
	got := j.Push(updates(up(0, 1, 5)), nil)
	if len(got) != 1 || got[0].Diff != n/groups || got[0].Time.Epoch != n-1 {
		t.Errorf("%v", got)
	}
}

// Counts that wrap around again and again are those of the whole.
func TestManyGreatCounts(t *testing.T) {
	j, sum, least := by(t, nil, nil), int64(0), int64(math.MinInt64)
	for i := range int64(1000) {
		diff := least + i
		sum += diff
		j.Push(updates(up(1, diff, 1)), nil)
	}
	pushes(t, j, nil, updates(up(1, math.MaxInt64, 2)), up(1, sum*math.MaxInt64, 1, 2))
	has(t, j, 2)
}
