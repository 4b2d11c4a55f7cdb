package stamp_test

import (
	"math"
	"slices"
	"testing"

	"penstock/api"
	"penstock/stamp"
)

func path(leave int, add uint32, enter ...uint32) api.Path {
	return api.Path{Leave: leave, Add: add, Enter: enter}
}

// samePath says whether two paths are the same; nil is the same as no counters.
func samePath(a, b api.Path) bool {
	return a.Leave == b.Leave && a.Add == b.Add && slices.Equal(a.Enter, b.Enter)
}

func TestApply(t *testing.T) {
	for _, x := range []struct {
		p       api.Path
		t, want api.Time
		e       api.Errno
	}{
		{path(1, 1), at(3, 1, 2), at(3, 2), api.OK},
		{path(0, 0, 0), at(3), at(3, 0), api.OK},
		{path(0, 0), at(3), at(3), api.OK},
		{path(0, 0), at(3, 1, 2, 3), at(3, 1, 2, 3), api.OK},
		{path(0, 2), at(3), at(5), api.OK},
		{path(0, 2), at(3, 1), at(3, 3), api.OK},
		{path(0, 2), at(3, 1, 1), at(3, 1, 3), api.OK},
		{path(2, 2), at(3, 1, 1), at(5), api.OK},
		{path(1, 4, 7, 8), at(3, 1, 2), at(3, 5, 7, 8), api.OK},
		{path(3, 4, 7, 8, 9), at(3, 1, 2, 5), at(7, 7, 8, 9), api.OK},
		{path(0, 1), at(3, top-1), at(3, top), api.OK},
		{path(0, top), at(3, 0), at(3, top), api.OK},
		{path(0, top), at(ahead - top), at(ahead), api.OK},
		{path(0, 0), at(ahead, top), at(ahead, top), api.OK},
		{path(1, 0), at(ahead, top), at(ahead), api.OK},
		{path(1, 1), at(1<<62, top), at(1<<62 + 1), api.OK}, // only Check has a greatest Epoch
		{path(1, 1), at(3, 5, top), at(3, 6), api.OK},
		{path(4, 1, 6), at(3, 1, 2, 3, 4, 5), at(3, 2, 6), api.OK},
		{path(2, 0), at(3, 1, 2, 3, 4, 5), at(3, 1, 2, 3), api.OK},

		{path(-1, 0), at(3), at(0), api.ErrStampForm},
		{path(-1, 1), at(3, top), at(0), api.ErrStampForm},
		{path(math.MinInt, 0), at(3, 1), at(0), api.ErrStampForm},
		{path(1, 0), at(3), at(0), api.ErrStampForm},
		{path(3, 0), at(3, 1, 2), at(0), api.ErrStampForm},
		{path(2, 1), at(ahead, 1), at(0), api.ErrStampForm},
		{path(math.MaxInt, 0), at(3, 1), at(0), api.ErrStampForm},
		{api.Path{Leave: 2}, api.Time{Epoch: 3, Loops: []uint32{1, 2}[:1]}, at(0), api.ErrStampForm},

		{path(0, 1), at(3, top), at(0), api.ErrStampOver},
		{path(0, top), at(3, 1), at(0), api.ErrStampOver},
		{path(0, top), at(3, top), at(0), api.ErrStampOver},
		{path(1, 2), at(3, top-1, 0), at(0), api.ErrStampOver},
		{path(0, 1), at(ahead), at(0), api.ErrStampOver},
		{path(1, top), at(ahead-top+1, 0), at(0), api.ErrStampOver},
		{path(0, 1, 0, 0), at(3, 1, top), at(0), api.ErrStampOver}, // and too many counters
		{path(0, 1, 0, 0, 0, 0), at(ahead), at(0), api.ErrStampOver},

		{path(0, 0, 0, 0), at(3, 1, 2), at(0), api.ErrStampForm},
		{path(0, 0, 0), at(3, 1, 2, 3), at(0), api.ErrStampForm},
		{path(1, 1, 0, 0, 0, 0), at(3, 1), at(0), api.ErrStampForm},
		{path(0, 0), at(3, 1, 2, 3, 4), at(0), api.ErrStampForm},
	} {
		if got, e := stamp.Apply(x.p, x.t); !same(got, x.want) || e != x.e {
			t.Errorf("Apply(%v, %v) = %v, %v, want %v, %v", x.p, x.t, got, e, x.want, x.e)
		}
	}
}

func TestThen(t *testing.T) {
	none := path(0, 0)
	for _, x := range []struct {
		a, b, want api.Path
		e          api.Errno
	}{
		{path(0, 0, 0), path(1, 0), none, api.OK},
		{path(0, 0, 0), path(0, 2), path(0, 0, 2), api.OK},
		{none, none, none, api.OK},

		// b leaves fewer counters than a enters.
		{path(1, 2, 3, 4), path(0, 5, 6), path(1, 2, 3, 9, 6), api.OK},
		{path(1, 2, 3, 4), path(1, 5, 6, 7), path(1, 2, 8, 6, 7), api.OK},
		{path(1, 2, 3, 4, 5), path(2, 0), path(1, 2, 3), api.OK},
		{path(0, top, 3), path(0, top-3), path(0, top, top), api.OK},
		{path(9, 0, 1, 2, 3, 4), path(1, 1, 5, 6, 7), path(9, 0, 1, 2, 4, 5, 6, 7), api.OK},
		{path(-3, 1, 4), path(0, 1), path(-3, 1, 5), api.OK},

		// as many
		{path(1, 2), path(0, 3), path(1, 5), api.OK},
		{path(1, 2, 9), path(1, 3, 4), path(1, 5, 4), api.OK},
		{path(1, 2, 9, 9), path(2, 3), path(1, 5), api.OK},
		{path(0, top), path(0, 0, top), path(0, top, top), api.OK},
		{path(0, top-1), path(0, 1), path(0, top), api.OK},
		{path(math.MaxInt, 0), none, path(math.MaxInt, 0), api.OK},
		{path(math.MinInt, 0, 1), path(1, 0), path(math.MinInt, 0), api.OK},

		// more
		{path(1, 2), path(1, 3, 4), path(2, 3, 4), api.OK},
		{path(0, top, 9), path(2, 3), path(1, 3), api.OK},
		{path(2, top, 9, 9), path(5, top, 6, 7), path(5, top, 6, 7), api.OK},
		{path(0, top), path(1, top), path(1, top), api.OK}, // what a adds is left
		{path(-3, 1), path(2, 1), path(-1, 1), api.OK},
		{path(top-2, 0, 1), path(3, 0), path(top, 0), api.OK},
		{none, path(top, 0), path(top, 0), api.OK},

		{none, path(-1, 0), none, api.ErrStampForm},
		{path(0, top, 1), path(-1, top), none, api.ErrStampForm},
		{path(1, 0), path(math.MinInt, 0), none, api.ErrStampForm},

		{path(0, 0, 3), path(0, top-2), none, api.ErrStampOver},
		{path(0, 0, top, 1), path(1, 1), none, api.ErrStampOver},
		{path(0, 1, top), path(0, top, 5), none, api.ErrStampOver},
		{path(0, 1), path(0, top), none, api.ErrStampOver},
		{path(2, top, 9), path(1, top), none, api.ErrStampOver},
		{path(top-2, 0, 1), path(4, 0), none, api.ErrStampOver},
		{path(1, 0), path(top, 0), none, api.ErrStampOver},
		{path(math.MaxInt, 0), path(1, 0), none, api.ErrStampOver},
		{path(1, 0), path(math.MaxInt, 0), none, api.ErrStampOver},
		{path(math.MaxInt, 0), path(math.MaxInt, 0), none, api.ErrStampOver},
	} {
		if got, e := stamp.Then(x.a, x.b); !samePath(got, x.want) || e != x.e {
			t.Errorf("Then(%v, %v) = %v, %v, want %v, %v", x.a, x.b, got, e, x.want, x.e)
		}
	}
}

func TestPathLeq(t *testing.T) {
	for _, x := range []struct {
		a, b  api.Path
		depth int
		want  bool
	}{
		{path(1, 0, 0), path(0, 1), 1, true},
		{path(0, 1), path(1, 0, 0), 1, false},
		{path(0, 0), path(0, 0), 0, true},
		{path(0, 0), path(0, 0), 3, true},

		// Both keep all, or leave as many.
		{path(0, 1), path(0, 2), 0, true},
		{path(0, 2), path(0, 1), 0, false},
		{path(0, top), path(0, top), 2, true},
		{path(1, 2), path(1, 2), 2, true},
		{path(1, 3), path(1, 2), 2, false},
		{path(2, 1, 5, 6), path(2, 1, 5, 6), 2, true},
		{path(2, 1, 5, 6), path(2, 1, 5, 7), 2, true},
		{path(2, 1, 5, 6), path(2, 1, 5, 5), 2, false},
		{path(2, 1, 5, 6), path(2, 1, 4, 6), 2, false},
		{path(2, 2, 0, 0), path(2, 1, 9, 9), 2, false},

		// One keeps what the other one has left.
		{path(1, 0, 2), path(0, 2), 1, true},
		{path(1, 0, 3), path(0, 2), 1, false},
		{path(1, 1, 0), path(0, 9), 1, false}, // the Epoch grows by a alone
		{path(2, 0, 0, 0), path(0, 0), 2, true},
		{path(2, 0, 0, 4), path(0, 4), 2, true},
		{path(2, 0, 1, 4), path(0, 4), 2, false}, // the outer counter does not grow by b
		{path(2, 0, 4, 4), path(1, 4, 4), 2, true},
		{path(2, 0, 4, 5), path(1, 4, 4), 2, false},
		{path(3, 0, 0, 0, 0), path(0, 0), 3, true},
		{path(0, 0), path(3, 9, 9, 9, 9), 3, false},
		{path(1, 0, 0), path(2, 0, top, top), 2, false},

		// No depth, or no Leave, that may be.
		{path(0, 0), path(0, 0), -1, false},
		{path(0, 0), path(0, 0), 4, false},
		{path(2, 0), path(2, 0), 4, false},
		{path(0, 0), path(0, 0), math.MinInt, false},
		{path(0, 0), path(0, 0), math.MaxInt, false},
		{path(-1, 0), path(0, 0, 0), 1, false},
		{path(0, 0, 0), path(-1, 0), 1, false},
		{path(-1, 0), path(-1, 0), 1, false},
		{path(1, 0), path(1, 0), 0, false},
		{path(2, 0, 0), path(1, 0), 1, false},
		{path(1, 0), path(2, 0, 0), 1, false},
		{path(math.MinInt, 0), path(0, 0), 1, false},
		{path(0, 0), path(math.MaxInt, 0), 1, false},

		// Depths that are not the same, or above 3.
		{path(1, 0), path(0, 9), 1, false},
		{path(0, 0), path(0, 0, 0), 1, false},
		{path(0, 0, 0), path(0, 0), 1, false},
		{path(0, 0, 0), path(0, 0, 0), 3, false},
		{path(3, 0, 0, 0, 0, 0), path(3, 0, 0, 0, 0, 0), 3, false},
		{path(0, 0, 0, 0, 0), path(0, 0, 0, 0, 0), 0, true},
		{path(0, 0, 0, 0, 0, 0), path(0, 0, 0, 0, 0, 0), 0, false},
		{api.Path{Enter: []uint32{1, 2}[:1]}, path(0, 0, 1), 1, true},
	} {
		if got := stamp.PathLeq(x.a, x.b, x.depth); got != x.want {
			t.Errorf("PathLeq(%v, %v, %d) = %v, want %v", x.a, x.b, x.depth, got, x.want)
		}
	}
}
