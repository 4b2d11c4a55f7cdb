package share_test

import (
	"testing"

	"penstock/api"
	"penstock/share"
)

// large is a trace of n rows, all of which are there from 0 on.
func large(t *testing.T, n int64) *share.Trace {
	t.Helper()
	var l []api.Update
	for i := range n {
		l = append(l, up(i, 0, 1))
	}
	s := share.New()
	insert(t, s, 1, l...)
	return s
}

// A handle follows a trace through very many epochs; what it has read is combined behind it.
func TestManyEpochs(t *testing.T) {
	const n, rows = 20000, 100
	s := large(t, rows)
	h := hold(t, s, 0)
	if l, upper, e := h.Next(); len(l) != rows || upper != 1 || e != api.OK {
		t.Fatalf("%d updates, %d, %v", len(l), upper, e)
	}
	for i := uint64(1); i < n; i++ {
		u := up(int64(i%rows), i, 1)
		insert(t, s, i+1, u)
		allows(t, s, i+1, api.OK)
		reads(t, h, i+1, u)
		allows(t, h, i, api.OK)
		s.Work(20)
	}
	stands(t, s, n-1, n, 1)
	l, e := s.At(n - 1)
	if e != api.OK || len(l) != rows {
		t.Fatalf("%d rows, %v", len(l), e)
	}
	for i, c := range l { // each row was there, and came again with each epoch of its own; that of row 0 was the first one
		if want := int64(n/rows + min(i, 1)); c.Row[0] != num(int64(i)) || c.Count != want {
			t.Errorf("%v", c)
		}
	}
}

// As long as nothing comes, a handle of a large trace is asked for nothing.
func TestNextOfNothing(t *testing.T) {
	s := large(t, 100000)
	seen, ahead := hold(t, s, 0), hold(t, s, 9)
	if l, _, _ := seen.Next(); len(l) != 100000 {
		t.Fatalf("%d updates", len(l))
	}
	for range 100000 {
		reads(t, seen, 1)
		reads(t, ahead, 9)
	}
}

func TestManyHandles(t *testing.T) {
	const n = 3000
	s := large(t, 3)
	insert(t, s, n)
	var l []*share.Handle
	for i := range uint64(n) {
		l = append(l, hold(t, s, i))
	}
	allows(t, s, n, api.OK)
	stands(t, s, 0, n, n)
	for i, h := range l {
		stands(t, s, uint64(i), n, n-i)
		reads(t, h, n, up(0, uint64(i), 1), up(1, uint64(i), 1), up(2, uint64(i), 1))
		h.Drop()
	}
	stands(t, s, n, n, 0)
}
