package join_test

import (
	"runtime"
	"slices"
	"strconv"
	"strings"
	"testing"
	"unsafe"

	"penstock/api"
	"penstock/join"
)

// given is what the calls are given, where each list has more behind its end, which is no part of it; the empty ones, too.
type given struct {
	leftCols, rightCols []int
	left, right, later  []api.Update
	since               []api.Time
}

func roomyList[S ~[]T, T any](l S, more ...T) S { return append(slices.Clone(l), more...)[:len(l)] }

func roomyUpdates(l ...api.Update) []api.Update {
	for i, u := range l {
		l[i].Row, l[i].Time.Loops = roomyList(u.Row, num(70), null()), roomyList(u.Time.Loops, 0, 80)
	}
	return roomyList(l, of(at(2), 1, text("abc"), num(99)))
}

func roomy() given {
	g := given{
		leftCols: roomyList(cols(0), 5), rightCols: roomyList(cols(0), 7),
		left:  roomyUpdates(of(at(1, 2), 1, text("abc"), num(1)), of(at(1), 2, text("abc")), of(at(1), 2, text("abc")), of(at(2), 1), up(2, 1, 5), up(3, 1, 5), up(3, 1, 6), up(3, -1, 6)),
		right: roomyUpdates(of(at(2, 1), 3, text("abc"), num(1)), of(at(3), 1, text("abc"), null()), up(4, 1, 5), of(at(2), 1)),
		later: roomyUpdates(of(at(2, 1), 1, text("abc")), of(at(3), 1, text("abc"), truth(true)), up(9, 1, 5)),
		since: list(at(2, 2), at(2)),
	}
	g.left[0].Row = g.left[1].Row[:1] // two updates may have one row
	for i, t := range g.since {
		g.since[i].Loops = roomyList(t.Loops, 0, 80)
	}
	g.since = roomyList(g.since, at(9))
	return g
}

// memory is all lists of what is given or answered, with what is behind their ends.
type memory struct {
	updates [][]api.Update
	times   [][]api.Time
	rows    []api.Row
	loops   [][]uint32
	cols    [][]int
}

func (m *memory) add(l []api.Update) {
	l = l[:cap(l)]
	m.updates = append(m.updates, l)
	for _, u := range l {
		m.rows = append(m.rows, u.Row[:cap(u.Row)])
		m.loops = append(m.loops, u.Time.Loops[:cap(u.Time.Loops)])
	}
}

func memoryOf(g given) (m memory) {
	for _, l := range [][]api.Update{g.left, g.right, g.later} {
		m.add(l)
	}
	m.times = append(m.times, g.since[:cap(g.since)])
	for _, t := range g.since {
		m.loops = append(m.loops, t.Loops[:cap(t.Loops)])
	}
	m.cols = append(m.cols, g.leftCols[:cap(g.leftCols)], g.rightCols[:cap(g.rightCols)])
	return m
}

// spoil overwrites all of it.
func (m *memory) spoil() {
	overwrite(m.loops, 999)
	overwrite(m.rows, text("spoilt"))
	overwrite(m.updates, of(at(999, 9), 9, text("spoilt")))
	overwrite(m.times, at(999, 9))
	overwrite(m.cols, 31)
}

func overwrite[T any, S ~[]T](lists []S, x T) {
	for _, l := range lists {
		for i := range l {
			l[i] = x
		}
	}
}

func same(a, b memory) bool {
	times := func(x, y []api.Time) bool { return slices.EqualFunc(x, y, sameTime) }
	return slices.EqualFunc(a.updates, b.updates, sameUpdates) && slices.EqualFunc(a.times, b.times, times) &&
		slices.EqualFunc(a.rows, b.rows, slices.Equal) && slices.EqualFunc(a.loops, b.loops, slices.Equal) && slices.EqualFunc(a.cols, b.cols, slices.Equal)
}

func overlap[T any](a, b []T) bool {
	for i := range a {
		for k := range b {
			if &a[i] == &b[k] {
				return true
			}
		}
	}
	return false
}

func anyOverlap[T any, S ~[]T](a, b []S, within bool) bool {
	for i := range a {
		for k := range b {
			if !(within && i == k) && overlap(a[i], b[k]) {
				return true
			}
		}
	}
	return false
}

// shares says whether something of a is in the memory of b; of two different lists of it, if within.
func shares(a, b memory, within bool) bool {
	return anyOverlap(a.updates, b.updates, within) || anyOverlap(a.rows, b.rows, within) || anyOverlap(a.loops, b.loops, within)
}

// played is a join that was given g, and all that it has told.
func played(t *testing.T, g given) (j *join.Join, told memory) {
	t.Helper()
	j = by(t, g.leftCols, g.rightCols)
	told.add(j.Push(g.left, g.right))
	j.Compact(g.since)
	told.add(j.Push(nil, g.later))
	told.add(j.Push(g.later, g.right[:1]))
	return j, told
}

func TestArgumentsAreAsTheyWere(t *testing.T) {
	g := roomy()
	j, _ := played(t, g)
	j.Len()
	if !same(memoryOf(g), memoryOf(roomy())) {
		t.Errorf("arguments have changed: %v", g)
	}
}

// The join is as it was, whatever becomes of what was given and of what was answered.
func TestNothingIsShared(t *testing.T) {
	g := roomy()
	j, first := played(t, g)
	other, _ := played(t, roomy())
	mine := memoryOf(g)
	var second memory
	second.add(j.Push(g.left, g.right))
	other.Push(g.left, g.right)
	if len(first.rows) < 8 || len(second.rows) < 8 {
		t.Fatalf("only %d and %d updates are told", len(first.rows), len(second.rows))
	}
	switch {
	case shares(first, second, false):
		t.Error("two answers share memory")
	case shares(first, first, true) || shares(second, second, true):
		t.Error("two lists that were answered share memory")
	case shares(first, mine, false) || shares(second, mine, false):
		t.Error("an answer shares memory with an argument")
	}
	mine.spoil()
	first.spoil()
	second.spoil()
	for range 2 {
		later := roomy().later
		want := other.Push(later, later)
		if got := j.Push(later, later); !sameUpdates(got, want) || j.Len() != other.Len() {
			t.Errorf("the join has changed: %v, want %v", got, want)
		}
		j.Compact(list(at(9), at(9, 9)))
		other.Compact(list(at(9), at(9, 9)))
	}
}

// One list, filled anew for each call.
func TestOneListForAllCalls(t *testing.T) {
	columns := cols(0)
	j := by(t, columns, columns)
	columns[0] = 1
	l := updates(of(at(0, 0), 1, num(0), text("x")))
	var want []api.Update
	for i := range 9 {
		l[0].Row[0], l[0].Time.Epoch = num(int64(i)), uint64(i)
		j.Push(l, nil)
		want = append(want, of(at(uint64(i), 0), 1, num(int64(i)), text("x"), num(int64(i))))
	}
	var all []api.Update
	for i := range int64(9) {
		all = append(all, of(at(0, 0), 1, num(i)))
	}
	pushes(t, j, nil, all, want...)
}

// Texts are part of a row: they do not stay in the memory of what was given, nor of what is kept.
func TestTextsAreNewMemory(t *testing.T) {
	whole := strings.Repeat("abc", 1000)
	part := whole[5:10]
	j := by(t, cols(0), cols(0))
	j.Push(once(api.Row{text(part)}), nil)
	places := []*byte{unsafe.StringData(part)}
	for range 3 {
		told := j.Push(nil, once(api.Row{text(part)}))
		if len(told) != 1 || len(told[0].Row) != 2 {
			t.Fatalf("%v", told)
		}
		for _, d := range told[0].Row {
			if d.Text != part {
				t.Fatalf("%q", d.Text)
			}
			places = append(places, unsafe.StringData(d.Text))
		}
	}
	for i, p := range places {
		if slices.Contains(places[:i], p) {
			t.Error("two texts are in the same memory")
		}
	}
}

func heap() uint64 {
	var m runtime.MemStats
	runtime.GC()
	runtime.ReadMemStats(&m)
	return m.HeapAlloc
}

// keeps says how many bytes a join may keep of what act does with it.
func keeps(t *testing.T, name string, most uint64, act func(j *join.Join)) {
	t.Helper()
	j := by(t, cols(0), cols(0))
	before := heap()
	act(j)
	if after := heap(); after > before+most {
		t.Errorf("%s: the heap grew from %d to %d", name, before, after)
	}
	runtime.KeepAlive(j)
}

// What was given is not kept, even where nothing of it is: lists of columns, rows without columns, and times without counters.
func TestNothingIsRetained(t *testing.T) {
	const size = 1 << 20
	var j *join.Join
	keeps(t, "columns", size, func(*join.Join) { j = by(t, make([]int, size)[:0], make([]int, size)[:1][:0]) })
	runtime.KeepAlive(j)
	keeps(t, "updates", size, func(j *join.Join) {
		l := updates(api.Update{Row: make(api.Row, 0, size), Time: api.Time{Loops: make([]uint32, 0, 8*size)}, Diff: 1})
		j.Push(l, l)
		j.Compact(list(api.Time{Loops: make([]uint32, 0, 8*size)}))
	})
	keeps(t, "texts", size, func(j *join.Join) {
		l := updates(of(at(0), 1, text(strings.Repeat("a", 8*size)[:5])))
		j.Push(l, nil)
	})
}

// What comes to nothing, and what Compact has combined, is not kept.
func TestWhatIsCombinedIsNotKept(t *testing.T) {
	const size = 20000
	var same, other, undone []api.Update
	for i := range int64(size) {
		same = append(same, up(uint64(i), 1, 7))
		other = append(other, of(at(0), 1, num(7), num(i), text("some text that takes room")))
		undone = append(undone, of(at(0), -1, num(7), num(i), text("some text that takes room")))
	}
	keeps(t, "one time", size, func(j *join.Join) {
		j.Push(same, nil)
		j.Compact(list(at(size)))
	})
	keeps(t, "all undone", size, func(j *join.Join) {
		j.Push(other, nil)
		j.Push(undone, nil)
	})
	keeps(t, "all but one undone", size, func(j *join.Join) {
		j.Push(other, nil)
		j.Push(undone[1:], nil)
		j.Len()
	})
	keeps(t, "undone one by one", size, func(j *join.Join) {
		j.Push(other, nil)
		for i := range undone {
			j.Push(undone[i:i+1], nil)
		}
	})
	keeps(t, "ever new ones", size, func(j *join.Join) {
		for i := range int64(size) {
			j.Push(nil, updates(up(0, 1, i)))
			j.Push(nil, updates(up(0, -1, i)))
		}
	})
	keeps(t, "undone once nobody can tell", 200*size, func(j *join.Join) {
		for i := range int64(size) {
			key := text(strconv.FormatInt(i, 10) + strings.Repeat(" ", 900))
			j.Push(updates(of(at(0), 1, key), of(at(1), -1, key)), nil)
		}
		has(t, j, 2*size)
		j.Compact(list(at(1)))
	})
	runtime.KeepAlive(same)
	runtime.KeepAlive(other)
	runtime.KeepAlive(undone)
}
