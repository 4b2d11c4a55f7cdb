package reduce_test

import (
	"math"
	"testing"

	"penstock/api"
	"penstock/reduce"
)

// numbered is n updates of an epoch, each with a row of its own, from a number on.
func numbered(epoch uint64, from, n int64) []api.Update {
	var out []api.Update
	for i := range n {
		out = append(out, of(at(epoch), 1, num(from+i), text("some text")))
	}
	return out
}

// Each of very many rows is a group; then single ones change.
func TestManyGroups(t *testing.T) {
	const n = 50000
	for _, spec := range []api.Rel{by(cols(0), countAll()), threshold(), top(cols(0), 1, 0)} {
		r := made(t, spec)
		pushes(t, r, numbered(1, 0, n), at(1))
		if got, errs := r.Close(nil); len(got) != n || len(errs) > 0 || got[n-1].Row[0] != num(n-1) {
			t.Fatalf("%d updates, %d errors", len(got), len(errs))
		}
		for i := range uint64(n) {
			r.Push(updates(of(at(2+i), -1, num(int64(i)), text("some text"))))
			if got, _ := r.Close(list(at(3 + i))); len(got) != 1 || got[0].Diff != -1 || got[0].Row[0] != num(int64(i)) {
				t.Fatalf("%v", got)
			}
		}
	}
}

// One group has very many rows, which come one by one, and all at once.
func TestManyRowsOfOneGroup(t *testing.T) {
	const n = 100000
	r := made(t, by(nil, countAll()))
	for i := range int64(n) {
		r.Push(numbered(1, i*7919%n, 1))
	}
	closes(t, r, nil, in(1, 1, n))
	pushes(t, r, numbered(2, 0, n), at(2))
	closes(t, r, nil, in(2, -1, n), in(2, 1, 2*n))
	for i := range uint64(50) {
		r.Push(numbered(3+i, int64(i), 1))
		r.Close(list(at(4 + i)))
	}
	pushes(t, r, numbered(100, 0, 1), at(100))
	closes(t, r, nil, in(100, -1, 2*n+50), in(100, 1, 2*n+51))
}

// One group changes again and again, and has few rows at each time.
func TestManyEpochs(t *testing.T) {
	const n = 50000
	r := made(t, by(cols(0), sum(col(1))))
	for i := range uint64(n) {
		pushes(t, r, updates(in(i, -1, 1, int64(i)), in(i, 1, 1, int64(i+1)), in(i, int64(i%2), 1, 0)), at(i))
		if i == 0 {
			r.Push(updates(in(0, 1, 1, 0)))
		}
		got, errs := r.Close(list(at(i + 1)))
		if len(errs) > 0 || got[len(got)-1].Row[1] != num(int64(i+1)) || got[len(got)-1].Diff != 1 {
			t.Fatalf("%v, %v", got, errs)
		}
	}
	waits(t, r)
}

// All of it is pushed before anything is closed.
func TestManyEpochsAtOnce(t *testing.T) {
	const n = 20000
	r := made(t, top(nil, 1, 0, down(0)))
	var l []api.Update
	for i := range uint64(n) {
		l = append(l, in(i, 1, int64(i)))
		if i >= 5 {
			l = append(l, in(i, -1, int64(i-5)))
		}
	}
	if come := r.Push(l); len(come) != n {
		t.Fatalf("%d times", len(come))
	}
	if got, _ := r.Close(list(at(n / 2))); len(got) != n-1 || len(r.Waits()) != n/2 {
		t.Errorf("%d updates", len(got))
	}
	r.Close(nil)
	late := r.Push(updates(in(0, 1, n)))
	if got, _ := r.Close(nil); len(late) != n || len(got) != 2*n || len(r.Waits()) > 0 {
		t.Errorf("%d updates, %d times", len(got), len(late))
	}
}

// Loops of several rounds in each of many epochs.
func TestManyRounds(t *testing.T) {
	const epochs, rounds = 100, 20
	r := made(t, by(cols(0), countAll()))
	for e := range uint64(epochs) {
		for i := range uint32(rounds) {
			come := r.Push(updates(of(at(e, i), 1, num(0)), of(at(e, i), 1, num(int64(e*rounds)+int64(i)+1))))
			if i == 0 && len(come) != min(rounds, rounds*int(e)+1) {
				t.Fatalf("%v", come)
			}
			got, _ := r.Close(list(at(e+1, 0), at(e, i+1)))
			n := int64(e+1) * int64(i+1)
			if e == 0 && (got[len(got)-1].Diff != 1 || got[0].Row[1] != num(n)) && i == 0 {
				t.Fatalf("%v", got)
			}
		}
	}
	waits(t, r)
	r.Push(updates(of(at(epochs, rounds), 1, num(0))))
	closes(t, r, nil, of(at(epochs, rounds), -1, num(0), num(epochs*rounds)), of(at(epochs, rounds), 1, num(0), num(epochs*rounds+1)))
}

// Times none of which is beyond another one have very many joins.
func TestManyJoins(t *testing.T) {
	const n = 100
	r := made(t, by(nil, countAll()))
	var l []api.Update
	for i := range uint32(n) {
		l = append(l, of(at(uint64(i), n-1-i), 1))
	}
	if come := r.Push(l); len(come) != n*(n+1)/2 {
		t.Fatalf("%d times", len(come))
	}
	got, _ := r.Close(list(at(n-1, n-1)))
	if len(got) == 0 || !sameTimes(r.Waits(), list(at(n-1, n-1))) {
		t.Errorf("%d updates, %v", len(got), r.Waits())
	}
	again := list(at(0, 0)) // and all but the one that waits already
	for e := range uint32(n) {
		for i := n - 1 - e; i < n && e+i < 2*n-2; i++ {
			again = append(again, at(uint64(e), i))
		}
	}
	pushes(t, r, updates(of(at(0, 0), 0)), again...)
}

// Sums of very many great numbers are exact.
func TestManyGreatNumbers(t *testing.T) {
	const most = math.MaxInt64
	var rows []api.Counted
	for i := range int64(10000) {
		rows = append(rows, times(most, num(math.MinInt64), num(i)), times(most, num(most), num(i)))
	}
	comesTo(t, "too great", by(nil, sum(col(0))), nil, rows, nil, faults(fault(api.ErrDatumOver, 1)))
	rows = append(rows, times(most, num(9999)), times(10000, num(1), num(0)), times(most, num(1)), times(5, num(2)))
	want := int64(10000) // each pair comes to -(2^63-1), 9999 and 1 times that come back
	comesTo(t, "just so", by(nil, sum(col(0))), nil, rows, bag(times(1, num(want+10))), nil)
}

// Many aggregations of many rows.
func TestManyAggregations(t *testing.T) {
	var aggs []api.Agg
	for range 16 {
		aggs = append(aggs, distinct(sum(col(0))), greatest(on(api.ExprAdd, col(0), lit(num(1)))))
	}
	r := made(t, by(cols(1), aggs...))
	r.Push(numbered(0, 0, 3000))
	got, errs := r.Close(nil)
	if len(got) != 1 || len(errs) > 0 || len(got[0].Row) != 33 || got[0].Row[1] != num(2999*1500) || got[0].Row[32] != num(3000) {
		t.Errorf("%v, %v", got, errs)
	}
	if key := reduce.Key(by(cols(1)), row(num(1))); len(key) != 1 {
		t.Errorf("%v", key)
	}
}
