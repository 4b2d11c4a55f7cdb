package stamp_test

import (
	"math"
	"slices"
	"testing"

	"penstock/api"
	"penstock/stamp"
)

func at(epoch uint64, loops ...uint32) api.Time { return api.Time{Epoch: epoch, Loops: loops} }

// same says whether two times are the same; nil is the same as no counters.
func same(a, b api.Time) bool { return a.Epoch == b.Epoch && slices.Equal(a.Loops, b.Loops) }

const (
	top   = math.MaxUint32
	ahead = math.MaxUint64
)

func TestCheck(t *testing.T) {
	for _, x := range []struct {
		t     api.Time
		depth int
		want  api.Errno
	}{
		{at(0), 0, api.OK},
		{api.Time{Loops: []uint32{}}, 0, api.OK},
		{at(1 << 62), 0, api.OK},
		{at(1<<62, top), 1, api.OK},
		{at(3, 0, 7), 2, api.OK},
		{at(3, 1, 2, 3), 3, api.OK},
		{at(1<<62 + 1), 0, api.ErrStampForm},
		{at(ahead, 1), 1, api.ErrStampForm},
		{at(3), 1, api.ErrStampForm},
		{at(3, 1), 0, api.ErrStampForm},
		{at(3, 1, 2), 3, api.ErrStampForm},
		{at(3, 1, 2, 3), 2, api.ErrStampForm},
		{at(3, 1, 2, 3, 4), 4, api.ErrStampForm},
		{at(3), -1, api.ErrStampForm},
		{at(3), math.MinInt, api.ErrStampForm},
		{at(3), math.MaxInt, api.ErrStampForm},
	} {
		if e := stamp.Check(x.t, x.depth); e != x.want {
			t.Errorf("Check(%v, %d) = %v, want %v", x.t, x.depth, e, x.want)
		}
	}
}

func TestLeq(t *testing.T) {
	for _, x := range []struct {
		a, b api.Time
		want bool
	}{
		{at(3, 1, 2), at(3, 2, 2), true},
		{at(3, 1, 2), at(4, 0, 2), false},
		{at(4, 0, 2), at(3, 1, 2), false},
		{at(0), at(0), true},
		{at(0), at(ahead), true},
		{at(ahead), at(1 << 63), false},
		{api.Time{Epoch: 3, Loops: []uint32{}}, at(3), true},
		{at(3, 5), at(3, 5), true},
		{at(3, 5), at(4, 5), true},
		{at(4, 5), at(3, 5), false},
		{at(3, 5), at(3, 4), false},
		{at(3, 0, 1), at(3, 1, 0), false},
		{at(3, 1, 0), at(3, 0, 1), false},
		{at(3, 0, 0, top), at(3, 0, 0, top), true},
		{at(3, 0, 0, top), at(3, 0, 0, top-1), false},
		{at(3), at(4, 0), false},
		{at(3, 0), at(4), false},
		{at(3, 1), at(3, 1, 0), false},
		{at(3, 1, 0), at(3, 1), false},
		{at(1, 1, 2, 3, 4, 5), at(1, 1, 2, 3, 4, 5), true},
		{at(1, 1, 2, 3, 4, 6), at(1, 1, 2, 3, 4, 5), false},
	} {
		if got := stamp.Leq(x.a, x.b); got != x.want {
			t.Errorf("Leq(%v, %v) = %v, want %v", x.a, x.b, got, x.want)
		}
	}
}

// Each is less than the one behind it.
func ascending() []api.Time {
	return []api.Time{
		at(0), at(1), at(2), at(1 << 62), at(1<<62 + 1), at(1 << 63), at(ahead),
		at(0, 0), at(0, 1), at(0, top), at(1, 0), at(ahead, 0), at(ahead, top),
		at(0, 0, 0), at(0, 0, 1), at(0, 0, top), at(0, 1, 0), at(0, top, 0), at(1, 0, 0), at(1, 0, 1), at(1, 1, 0),
		at(0, 0, 0, 0), at(0, 0, 0, 1), at(0, 0, 1, 0), at(0, 1, 0, 0), at(0, 2, 0, 0), at(0, top, 0, 0), at(1, 0, 0, 0),
		at(0, 0, 0, 0, 0), at(0, 0, 0, 0, 1), at(0, 1, 0, 0, 0), at(1, 0, 0, 0, 0),
		at(0, 0, 0, 0, 0, 0, 0, 0, 0),
	}
}

func TestCmpIsATotalOrder(t *testing.T) {
	for i, a := range ascending() {
		for j, b := range ascending() {
			want := 0
			if i < j {
				want = -1
			} else if i > j {
				want = 1
			}
			if got := stamp.Cmp(a, b); got != want {
				t.Errorf("Cmp(%v, %v) = %d, want %d", a, b, got, want)
			}
		}
	}
	if got := stamp.Cmp(at(3), api.Time{Epoch: 3, Loops: []uint32{}}); got != 0 {
		t.Errorf("a time without counters differs from itself: %d", got)
	}
}

func TestJoinAndMeet(t *testing.T) {
	for _, x := range []struct {
		a, b, join, meet api.Time
		e                api.Errno
	}{
		{at(3, 1, 2), at(4, 0, 2), at(4, 1, 2), at(3, 0, 2), api.OK},
		{at(3), at(4), at(4), at(3), api.OK},
		{at(ahead), at(0), at(ahead), at(0), api.OK},
		{at(3), api.Time{Epoch: 3, Loops: []uint32{}}, at(3), at(3), api.OK},
		{at(3, top), at(3, 0), at(3, top), at(3, 0), api.OK},
		{at(ahead, 0), at(0, top), at(ahead, top), at(0, 0), api.OK},
		{at(1, 5, 2, 7), at(2, 4, 3, 6), at(2, 5, 3, 7), at(1, 4, 2, 6), api.OK},
		{at(1, 1, 2, 3, 4, 5), at(1, 5, 4, 3, 2, 1), at(1, 5, 4, 3, 4, 5), at(1, 1, 2, 3, 2, 1), api.OK},
		{at(3), at(3, 0), at(0), at(0), api.ErrStampForm},
		{at(3, 1, 2), at(3, 1), at(0), at(0), api.ErrStampForm},
		{at(3, 1, 2), at(3, 1, 2, 3), at(0), at(0), api.ErrStampForm},
		{at(3, 1, 2, 3), at(3, 1, 2, 3, 4), at(0), at(0), api.ErrStampForm},
	} {
		for _, turned := range []bool{false, true} {
			a, b := x.a, x.b
			if turned {
				a, b = b, a
			}
			if got, e := stamp.Join(a, b); !same(got, x.join) || e != x.e {
				t.Errorf("Join(%v, %v) = %v, %v, want %v, %v", a, b, got, e, x.join, x.e)
			}
			if got, e := stamp.Meet(a, b); !same(got, x.meet) || e != x.e {
				t.Errorf("Meet(%v, %v) = %v, %v, want %v, %v", a, b, got, e, x.meet, x.e)
			}
		}
	}
}

func TestPrint(t *testing.T) {
	for _, x := range []struct {
		t    api.Time
		want string
	}{
		{at(0), "0"},
		{api.Time{Epoch: 12, Loops: []uint32{}}, "12"},
		{at(ahead), "18446744073709551615"},
		{at(3, 1, 2), "3(1,2)"},
		{at(3, 0), "3(0)"},
		{at(0, 0, 10, top), "0(0,10,4294967295)"},
		{at(1, 1, 2, 3, 4, 5), "1(1,2,3,4,5)"},
		{api.Time{Epoch: 1, Loops: []uint32{7, 8}[:1]}, "1(7)"},
	} {
		if got := stamp.Print(x.t); got != x.want {
			t.Errorf("Print(%v) = %q, want %q", x.t, got, x.want)
		}
	}
}

// Counts are kept by the text forms of times: each time has its own.
func TestPrintTellsTimesApart(t *testing.T) {
	seen := map[string]api.Time{}
	for _, x := range append(ascending(), at(1, 12), at(11, 2), at(1, 1, 2), at(1, 1, 12), at(1, 11, 2)) {
		form := stamp.Print(x)
		if before, ok := seen[form]; ok && !same(before, x) {
			t.Errorf("%v and %v are both %s", before, x, form)
		}
		seen[form] = x
	}
}
