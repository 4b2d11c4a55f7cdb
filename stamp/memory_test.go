package stamp_test

import (
	"slices"
	"testing"
	"unsafe"

	"penstock/api"
	"penstock/stamp"
)

// within is l with other counters behind its end, which are not its own.
func within(l ...uint32) []uint32 { return append(slices.Clone(l), 70, 80, 90)[:len(l)] }

// intact says whether l is still what within made of want.
func intact(l, want []uint32) bool { return slices.Equal(l[:len(want)+3], append(want, 70, 80, 90)) }

// apart says whether none of the lists has memory in common with another one, also behind their ends.
func apart(lists ...[]uint32) bool {
	for i, l := range lists {
		for _, k := range lists[i+1:] {
			if l, k := l[:cap(l)], k[:cap(k)]; overlap(l, k) || unsafe.SliceData(l) == unsafe.SliceData(k) && l != nil {
				return false
			}
		}
	}
	return true
}

func overlap(a, b []uint32) bool {
	for i := range a {
		for j := range b {
			if &a[i] == &b[j] {
				return true
			}
		}
	}
	return false
}

func TestTimesAreNewMemory(t *testing.T) {
	for _, l := range [][]uint32{{}, {1}, {1, 2}, {1, 2, 3}, {1, 2, 3, 4, 5}} {
		a, b := api.Time{Epoch: 3, Loops: within(l...)}, api.Time{Epoch: 4, Loops: within(l...)}
		join, _ := stamp.Join(a, b)
		again, _ := stamp.Join(a, b)
		meet, _ := stamp.Meet(a, b)
		if !apart(a.Loops, b.Loops, join.Loops, again.Loops, meet.Loops) {
			t.Errorf("of %v: what is answered shares memory", l)
		}
		stamp.Check(a, len(l))
		stamp.Leq(a, b)
		stamp.Cmp(a, b)
		stamp.Print(a)
		if !intact(a.Loops, l) || !intact(b.Loops, l) {
			t.Errorf("%v has changed to %v, %v", l, a, b)
		}
	}
}

func TestAppliedTimesAreNewMemory(t *testing.T) {
	for _, l := range [][]uint32{{}, {1}, {1, 2}, {1, 2, 3}} {
		for leave := range len(l) + 1 {
			for enter := range api.MaxLoops - len(l) + leave + 1 {
				entered := []uint32{7, 8, 9}[:enter]
				x, p := api.Time{Epoch: 3, Loops: within(l...)}, api.Path{Leave: leave, Add: 5, Enter: within(entered...)}
				got, e := stamp.Apply(p, x)
				again, _ := stamp.Apply(p, x)
				if e != api.OK || !apart(x.Loops, p.Enter, got.Loops, again.Loops) {
					t.Errorf("Apply(%v, %v) = %v, %v shares memory", p, x, got, e)
				}
				if !intact(x.Loops, l) || !intact(p.Enter, slices.Clone(entered)) {
					t.Errorf("an argument has changed to %v, %v", p, x)
				}
			}
		}
	}
}

func TestPathsAreNewMemory(t *testing.T) {
	for n := range 4 {
		for m := range 4 {
			for leave := range 5 {
				first, second := []uint32{1, 2, 3}[:n:n], []uint32{4, 5, 6}[:m:m]
				a, b := api.Path{Leave: 1, Add: 2, Enter: within(first...)}, api.Path{Leave: leave, Add: 3, Enter: within(second...)}
				got, e := stamp.Then(a, b)
				again, _ := stamp.Then(a, b)
				if e != api.OK || !apart(a.Enter, b.Enter, got.Enter, again.Enter) {
					t.Errorf("Then(%v, %v) = %v, %v shares memory", a, b, got, e)
				}
				stamp.PathLeq(a, b, 3)
				if !intact(a.Enter, first) || !intact(b.Enter, second) {
					t.Errorf("an argument has changed to %v, %v", a, b)
				}
			}
		}
	}
}
