package spine_test

import (
	"math"
	"testing"

	"penstock/api"
	"penstock/spine"
)

// Very many small batches, which are merged as they come.
func TestManyInserts(t *testing.T) {
	const n, rows = 50000, 100
	s := spine.New()
	for i := range uint64(n) {
		insert(t, s, i+1, up(int64(i%rows), i, 1))
		s.Work(20)
		if i%1000 == 999 {
			compacts(t, s, list(at(i)), api.OK)
		}
	}
	if l := s.Sizes(); len(l) > 20 {
		t.Errorf("batches of %v", l)
	}
	l := s.All()
	if len(l) != rows {
		t.Fatalf("%d updates", len(l))
	}
	there, e := s.At(at(n - 1))
	if e != api.OK || len(there) != rows {
		t.Fatalf("%d rows, %v", len(there), e)
	}
	for i, c := range there {
		if c.Count != n/rows || c.Row[0] != num(int64(i)) {
			t.Errorf("%v", c)
		}
	}
}

// Very many small batches on which nobody has worked, merged at last.
func TestMuchWorkAtOnce(t *testing.T) {
	const n = 3000
	s := spine.New()
	for i := range uint64(n) {
		insert(t, s, i+1, up(int64(i*7919%n), i, 1))
	}
	cost := 0
	for i := 2; i <= n; i++ {
		cost += i
	}
	works(t, s, math.MaxInt, math.MaxInt-cost)
	sizes(t, s, n)
	for i, u := range s.All() {
		if u.Row[0] != num(int64(i)) || u.Diff != 1 || u.Time.Epoch*7919%n != uint64(i) {
			t.Fatalf("update %d is %v", i, u)
		}
	}
}

// A row is found among many batches, without all the others being told.
func TestRowsOfLargeBatches(t *testing.T) {
	const n, size = 20, 20000
	s := spine.New()
	for i := range uint64(n) {
		var l []api.Update
		for k := range int64(size) {
			l = append(l, up(k, i, 1+k%2))
		}
		insert(t, s, i+1, l...)
	}
	for k := range int64(2000) {
		if l := s.Row(row(num(k * 10))); len(l) != n || l[0].Diff != 1 || l[n-1].Time.Epoch != n-1 {
			t.Fatalf("row %d: %v", k*10, l)
		}
	}
	rows(t, s, row(num(size)))
}
