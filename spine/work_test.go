package spine_test

import (
	"math"
	"slices"
	"testing"

	"penstock/api"
	"penstock/spine"
)

// stacked is a spine with batches of these sizes; no two rows are the same.
func stacked(t *testing.T, l ...int) *spine.Spine {
	t.Helper()
	s := spine.New()
	n := int64(0)
	for i, size := range l {
		var b []api.Update
		for range size {
			b = append(b, up(n, uint64(i), 1))
			n++
		}
		insert(t, s, uint64(i+1), b...)
	}
	sizes(t, s, l...)
	return s
}

func TestWorkOnWhatIsDue(t *testing.T) {
	for _, x := range []struct {
		before     []int
		fuel, left int
		after      []int
	}{
		{nil, 7, 7, nil},
		{[]int{1}, 7, 7, []int{1}},
		{[]int{1, 1}, 7, 5, []int{2}},
		{[]int{2, 1}, 7, 4, []int{3}},
		{[]int{3, 1}, 7, 7, []int{3, 1}},
		{[]int{4, 2}, 7, 1, []int{6}},
		{[]int{5, 2}, 7, 7, []int{5, 2}},
		{[]int{1, 5}, 7, 1, []int{6}},
		{[]int{7, 3, 1}, 100, 100, []int{7, 3, 1}},
		{[]int{6, 3, 1}, 100, 91, []int{9, 1}},
		// The last pair that is due comes first.
		{[]int{1, 1, 3, 1}, 4, 0, []int{1, 4, 1}},
		{[]int{1, 1, 3, 1}, 5, 0, []int{1, 4, 1}},
		{[]int{1, 1, 3, 1}, 9, 0, []int{5, 1}},
		{[]int{1, 1, 3, 1}, 10, 1, []int{5, 1}},
		{[]int{1, 1, 1}, 2, 0, []int{1, 2}},
		{[]int{1, 1, 1}, 5, 0, []int{3}},
		{[]int{2, 5, 2}, 6, 0, []int{2, 5, 2}},
		{[]int{2, 5, 2}, 7, 0, []int{7, 2}},
		{[]int{9, 4, 2, 1}, 100, 100 - 3 - 7 - 16, []int{16}},
		{[]int{20, 9, 3, 2}, 100, 100 - 5 - 14 - 34, []int{34}},
		{[]int{40, 9, 3, 2}, 100, 100 - 5 - 14, []int{40, 14}},
		// Too little fuel is used up, and merges nothing.
		{[]int{1, 1}, 1, 0, []int{1, 1}},
		{[]int{4, 2}, 5, 0, []int{4, 2}},
		{[]int{4, 2}, 6, 0, []int{6}},
		// There is no fuel.
		{[]int{1, 1}, 0, 0, []int{1, 1}},
		{[]int{1, 1}, -1, 0, []int{1, 1}},
		{[]int{1, 1}, math.MinInt, 0, []int{1, 1}},
		{[]int{3, 1}, -1, 0, []int{3, 1}},
		{nil, -9, 0, nil},
		{[]int{1, 1}, math.MaxInt, math.MaxInt - 2, []int{2}},
		{[]int{3, 1}, math.MaxInt, math.MaxInt, []int{3, 1}},
	} {
		s := stacked(t, x.before...)
		want := s.All()
		works(t, s, x.fuel, x.left)
		sizes(t, s, x.after...)
		all(t, s, want...)
	}
}

// What was paid is not paid again, however little it was at a time.
func TestWorkBitByBit(t *testing.T) {
	s := stacked(t, 4, 3, 2)
	for _, x := range []struct {
		fuel, left int
		after      []int
	}{
		{1, 0, []int{4, 3, 2}}, {0, 0, []int{4, 3, 2}}, {-5, 0, []int{4, 3, 2}}, {3, 0, []int{4, 3, 2}}, {1, 0, []int{4, 5}},
		{8, 0, []int{4, 5}}, {5, 4, []int{9}}, {5, 5, []int{9}},
	} {
		works(t, s, x.fuel, x.left)
		sizes(t, s, x.after...)
	}
}

// A pair that is being merged goes on being merged, even if another one is due by now.
func TestInsertWhileMerging(t *testing.T) {
	s := stacked(t, 3, 2)
	works(t, s, 1, 0)
	insert(t, s, 3, up(90, 2, 1))
	sizes(t, s, 3, 2, 1)
	works(t, s, 3, 0)
	sizes(t, s, 3, 2, 1)
	insert(t, s, 4, up(91, 3, 1))
	works(t, s, 1, 0)
	sizes(t, s, 5, 1, 1)
	works(t, s, 10, 8)
	sizes(t, s, 5, 2)
	insert(t, s, 5, up(92, 4, 1))
	works(t, s, 11, 0)
	sizes(t, s, 8)
}

// The last pair is chosen when there is fuel for it, not when the one before it is paid.
func TestNoPairIsChosenWithoutFuel(t *testing.T) {
	s := stacked(t, 1, 1, 1)
	works(t, s, 2, 0)
	sizes(t, s, 1, 2)
	insert(t, s, 4, up(90, 3, 1))
	works(t, s, 3, 0)
	sizes(t, s, 1, 3)
}

func TestMergedUpdatesAreCombined(t *testing.T) {
	s := spine.New()
	insert(t, s, 5, up(1, 1, 1), up(1, 3, 1), up(2, 0, 1), up(4, 4, 1))
	insert(t, s, 9, up(1, 5, -1), up(1, 6, 1), up(3, 5, 1), up(4, 6, -1))
	sizes(t, s, 4, 4)
	compacts(t, s, list(at(5)), api.OK)
	sizes(t, s, 4, 4)
	works(t, s, 8, 0)
	sizes(t, s, 6)
	want := updates(up(1, 5, 1), up(1, 6, 1), up(2, 5, 1), up(3, 5, 1), up(4, 5, 1), up(4, 6, -1))
	all(t, s, want...)
	there(t, s, 6, counted(2, num(1)), counted(1, num(2)), counted(1, num(3)))
	compacts(t, s, list(at(6)), api.OK)
	sizes(t, s, 6)
	works(t, s, 9, 9)
	sizes(t, s, 6)
	insert(t, s, 10, up(5, 9, 1), up(6, 9, 1), up(7, 9, 1))
	works(t, s, 9, 0)
	sizes(t, s, 6)
	all(t, s, up(1, 6, 2), up(2, 6, 1), up(3, 6, 1), up(5, 9, 1), up(6, 9, 1), up(7, 9, 1))
}

// SINCE is that at the end of the work, not at its beginning.
func TestCompactWhileMerging(t *testing.T) {
	s := spine.New()
	insert(t, s, 3, up(1, 0, 1), up(1, 1, 1), up(1, 2, 1))
	insert(t, s, 5, up(1, 3, 1), up(1, 4, 1))
	compacts(t, s, list(at(1)), api.OK)
	works(t, s, 4, 0)
	sizes(t, s, 3, 2)
	all(t, s, up(1, 1, 2), up(1, 2, 1), up(1, 3, 1), up(1, 4, 1))
	compacts(t, s, list(at(3)), api.OK)
	sizes(t, s, 3, 2)
	all(t, s, up(1, 3, 4), up(1, 4, 1))
	works(t, s, 2, 1)
	sizes(t, s, 2)
	all(t, s, up(1, 3, 4), up(1, 4, 1))
	there(t, s, 3, counted(4, num(1)))
	there(t, s, 4, counted(5, num(1)))
	// A single batch is not merged with anything: it stays as it is.
	compacts(t, s, list(at(4)), api.OK)
	works(t, s, 7, 7)
	sizes(t, s, 2)
	all(t, s, up(1, 4, 5))
}

func TestMergedBatchesMayVanish(t *testing.T) {
	s := spine.New()
	insert(t, s, 1, up(1, 0, 1), up(2, 0, math.MinInt64))
	insert(t, s, 2, up(1, 1, -1), up(2, 1, math.MinInt64))
	insert(t, s, 3, up(9, 2, 1))
	works(t, s, 3, 0)
	sizes(t, s, 2, 3)
	compacts(t, s, list(at(1)), api.OK)
	all(t, s, up(9, 2, 1))
	works(t, s, 4, 0)
	compacts(t, s, list(at(2)), api.OK)
	works(t, s, 1, 0)
	sizes(t, s, 1)
	all(t, s, up(9, 2, 1))

	s = spine.New()
	insert(t, s, 1, up(1, 0, 1))
	insert(t, s, 2, up(2, 1, 1), up(3, 1, 1), up(4, 1, 1))
	insert(t, s, 3, up(2, 2, -1), up(3, 2, -1), up(4, 2, -1))
	compacts(t, s, list(at(2)), api.OK)
	works(t, s, 5, 0)
	sizes(t, s, 1, 3, 3)
	insert(t, s, 4, up(5, 3, 1))
	works(t, s, 1, 0)
	sizes(t, s, 1, 1)
	works(t, s, 3, 1)
	sizes(t, s, 2)
	all(t, s, up(1, 2, 1), up(5, 3, 1))

	s = spine.New()
	insert(t, s, 1, up(1, 0, 1))
	insert(t, s, 2, up(1, 1, -1))
	compacts(t, s, list(at(9)), api.OK)
	works(t, s, 5, 3)
	sizes(t, s)
	all(t, s)
	rows(t, s, row(num(1)))
	works(t, s, 5, 5)
	insert(t, s, 20, up(1, 10, 1))
	sizes(t, s, 1)
	there(t, s, 9)
	there(t, s, 10, counted(1, num(1)))
}

// Where SINCE has no time, nothing is told, and advancing leaves all times as they are.
func TestWorkForEver(t *testing.T) {
	s := spine.New()
	insert(t, s, 2, up(1, 0, 1), up(1, 1, 1))
	insert(t, s, 4, up(1, 2, 1), up(1, 3, -1))
	compacts(t, s, nil, api.OK)
	works(t, s, 9, 5)
	sizes(t, s, 4)
	all(t, s)
	insert(t, s, 5, up(1, 4, 1), up(2, 4, -1))
	works(t, s, 9, 3)
	sizes(t, s, 6)
}

func TestMergedBatchesTellRows(t *testing.T) {
	s := spine.New()
	insert(t, s, 2, up(1, 0, 1), up(3, 1, 1), of(at(0), 1, text("b")))
	insert(t, s, 4, up(2, 2, 1), up(3, 3, 1), of(at(3), 1, text("a")), of(at(3), -1, text("b")))
	works(t, s, 7, 0)
	sizes(t, s, 7)
	rows(t, s, row(num(1)), change(0, 1))
	rows(t, s, row(num(2)), change(2, 1))
	rows(t, s, row(num(3)), change(1, 1), change(3, 1))
	rows(t, s, row(text("a")), change(3, 1))
	rows(t, s, row(text("b")), change(0, 1), change(3, -1))
	rows(t, s, row(num(4)))
}

// With enough fuel each batch is more than twice as large as the next one.
func TestFewBatches(t *testing.T) {
	s := spine.New()
	for i := range 3000 {
		insert(t, s, uint64(i+1), up(int64(i), uint64(i), 1))
		works(t, s, 0, 0)
		for s.Work(100) == 0 {
		}
		l := s.Sizes()
		for k := range len(l) - 1 {
			if l[k] <= 2*l[k+1] {
				t.Fatalf("batches of %v", l)
			}
		}
	}
	if l := s.Sizes(); len(l) > 12 {
		t.Errorf("batches of %v", l)
	}
}

// A batch that a merging leaves is merged with its neighbours when it is due: the work is the same, however the fuel is divided.
func TestDivisionOfFuel(t *testing.T) {
	whole, parts := stacked(t, 3, 9, 1, 4, 2, 2, 8, 1, 1, 1, 5), stacked(t, 3, 9, 1, 4, 2, 2, 8, 1, 1, 1, 5)
	const fuel = 1000
	left := whole.Work(fuel)
	used := 0
	for parts.Work(1) == 0 {
		used++
	}
	if used != fuel-left || !slices.Equal(whole.Sizes(), parts.Sizes()) {
		t.Errorf("%d and %d were used, for %v and %v", fuel-left, used, whole.Sizes(), parts.Sizes())
	}
}
