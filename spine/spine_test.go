package spine_test

import (
	"math"
	"slices"
	"strings"
	"testing"

	"penstock/api"
	"penstock/spine"
)

func num(n int64) api.Datum { return api.Datum{Kind: api.KindInt, Int: n} }

func text(s string) api.Datum { return api.Datum{Kind: api.KindText, Text: s} }

func truth(b bool) api.Datum { return api.Datum{Kind: api.KindBool, Bool: b} }

func null() api.Datum { return api.Datum{Kind: api.KindNull} }

func at(epoch uint64, loops ...uint32) api.Time { return api.Time{Epoch: epoch, Loops: loops} }

func list(l ...api.Time) []api.Time { return l }

func row(data ...api.Datum) api.Row { return data }

// up is an update of the row of one number.
func up(n int64, epoch uint64, diff int64) api.Update {
	return api.Update{Row: row(num(n)), Time: at(epoch), Diff: diff}
}

func of(t api.Time, diff int64, data ...api.Datum) api.Update {
	return api.Update{Row: data, Time: t, Diff: diff}
}

func updates(l ...api.Update) []api.Update { return l }

func counted(n int64, data ...api.Datum) api.Counted { return api.Counted{Row: data, Count: n} }

func bag(l ...api.Counted) []api.Counted { return l }

func change(epoch uint64, diff int64) api.Change { return api.Change{Time: at(epoch), Diff: diff} }

func changes(l ...api.Change) []api.Change { return l }

func sameTime(a, b api.Time) bool { return a.Epoch == b.Epoch && slices.Equal(a.Loops, b.Loops) }

func sameTimes(a, b []api.Time) bool { return slices.EqualFunc(a, b, sameTime) }

func sameUpdates(a, b []api.Update) bool {
	return slices.EqualFunc(a, b, func(x, y api.Update) bool {
		return x.Diff == y.Diff && sameTime(x.Time, y.Time) && slices.Equal(x.Row, y.Row)
	})
}

func sameBag(a, b []api.Counted) bool {
	return slices.EqualFunc(a, b, func(x, y api.Counted) bool { return x.Count == y.Count && slices.Equal(x.Row, y.Row) })
}

func sameChanges(a, b []api.Change) bool {
	return slices.EqualFunc(a, b, func(x, y api.Change) bool { return x.Diff == y.Diff && sameTime(x.Time, y.Time) })
}

// inserts says what Insert should answer.
func inserts(t *testing.T, s *spine.Spine, l []api.Update, upper []api.Time, want api.Errno) {
	t.Helper()
	if e := s.Insert(l, upper); e != want {
		t.Fatalf("Insert(%v, %v) = %v, want %v", l, upper, e, want)
	}
}

func insert(t *testing.T, s *spine.Spine, upper uint64, l ...api.Update) {
	t.Helper()
	inserts(t, s, l, list(at(upper)), api.OK)
}

func compacts(t *testing.T, s *spine.Spine, since []api.Time, want api.Errno) {
	t.Helper()
	if e := s.Compact(since); e != want {
		t.Fatalf("Compact(%v) = %v, want %v", since, e, want)
	}
}

// works says how much fuel should be left.
func works(t *testing.T, s *spine.Spine, fuel, want int) {
	t.Helper()
	if left := s.Work(fuel); left != want {
		t.Fatalf("Work(%d) = %d, want %d", fuel, left, want)
	}
}

func sizes(t *testing.T, s *spine.Spine, want ...int) {
	t.Helper()
	if l := s.Sizes(); !slices.Equal(l, want) {
		t.Fatalf("Sizes() = %v, want %v", l, want)
	}
}

func all(t *testing.T, s *spine.Spine, want ...api.Update) {
	t.Helper()
	if l := s.All(); !sameUpdates(l, want) {
		t.Fatalf("All() = %v, want %v", l, want)
	}
}

func there(t *testing.T, s *spine.Spine, epoch uint64, want ...api.Counted) {
	t.Helper()
	if l, e := s.At(at(epoch)); e != api.OK || !sameBag(l, want) {
		t.Fatalf("At(%d) = %v, %v, want %v", epoch, l, e, want)
	}
}

// refuses says which error At should answer, with nothing beside it.
func refuses(t *testing.T, s *spine.Spine, x api.Time, want api.Errno) {
	t.Helper()
	if l, e := s.At(x); e != want || l != nil {
		t.Fatalf("At(%v) = %v, %v, want %v", x, l, e, want)
	}
}

func rows(t *testing.T, s *spine.Spine, r api.Row, want ...api.Change) {
	t.Helper()
	if l := s.Row(r); !sameChanges(l, want) {
		t.Fatalf("Row(%v) = %v, want %v", r, l, want)
	}
}

// stands says where SINCE and UPPER should be.
func stands(t *testing.T, s *spine.Spine, since, upper []api.Time) {
	t.Helper()
	if l := s.Since(); !sameTimes(l, since) {
		t.Fatalf("Since() = %v, want %v", l, since)
	}
	if l := s.Upper(); !sameTimes(l, upper) {
		t.Fatalf("Upper() = %v, want %v", l, upper)
	}
}

// two is the spine of the first example.
func two(t *testing.T) *spine.Spine {
	t.Helper()
	s := spine.New()
	insert(t, s, 1, up(1, 0, 1))
	insert(t, s, 2, up(1, 1, 1), up(2, 1, 1))
	return s
}

func TestExamples(t *testing.T) {
	s := two(t)
	sizes(t, s, 1, 2)
	there(t, s, 1, counted(2, num(1)), counted(1, num(2)))
	refuses(t, s, at(2), api.ErrSpineEarly)
	works(t, s, 100, 97)
	sizes(t, s, 3)
	compacts(t, s, list(at(1)), api.OK)
	all(t, s, up(1, 1, 2), up(2, 1, 1))
	refuses(t, s, at(0), api.ErrSpineEarly)
	inserts(t, s, nil, list(at(1)), api.ErrSpineForm)
	inserts(t, s, updates(up(1, 1, 1)), list(at(3)), api.ErrSpineEarly)
	works(t, s, 0, 0)
}

func TestNew(t *testing.T) {
	s := spine.New()
	stands(t, s, list(at(0)), list(at(0)))
	sizes(t, s)
	all(t, s)
	rows(t, s, row())
	works(t, s, 5, 5)
	refuses(t, s, at(0), api.ErrSpineEarly)
	refuses(t, s, at(math.MaxUint64), api.ErrSpineEarly)
	refuses(t, s, at(0, 0), api.ErrSpineForm)
}

func TestInsert(t *testing.T) {
	long := text(strings.Repeat("x", api.MaxText+1))
	wide := slices.Repeat(row(null()), api.MaxColumns+1)
	for name, x := range map[string]struct {
		l     []api.Update
		upper []api.Time
		want  api.Errno
	}{
		"nothing":                       {nil, list(at(2)), api.OK},
		"nothing, and further":          {nil, list(at(9)), api.OK},
		"nothing, for ever":             {nil, nil, api.OK},
		"at UPPER":                      {updates(up(1, 2, 1)), list(at(3)), api.OK},
		"for ever":                      {updates(up(1, 2, 1), up(1, math.MaxUint64, 1)), nil, api.OK},
		"great times":                   {updates(up(1, math.MaxUint64-1, 1)), list(at(math.MaxUint64)), api.OK},
		"the longest text":              {updates(of(at(2), 1, text(long.Text[1:]))), list(at(3)), api.OK},
		"the widest row":                {updates(of(at(2), 1, wide[1:]...)), list(at(3)), api.OK},
		"no columns":                    {updates(of(at(2), 1)), list(at(3)), api.OK},
		"rows of all lengths and kinds": {updates(of(at(2), 1, null()), of(at(3), 0, num(1), truth(true), text("é"))), list(at(4)), api.OK},
		"counters":                      {updates(up(1, 2, 1), of(at(2, 0), 1)), list(at(3)), api.ErrSpineForm},
		"counters in upper":             {nil, list(at(3, 0)), api.ErrSpineForm},
		"counters, early":               {updates(of(at(0, 5), 1)), list(at(3)), api.ErrSpineForm},
		"counters, behind early ones":   {updates(up(1, 0, 1), of(at(3, 1), 1)), list(at(3)), api.ErrSpineForm},
		"two times in upper":            {nil, list(at(3), at(4)), api.ErrSpineForm},
		"one time twice in upper":       {nil, list(at(3), at(3)), api.ErrSpineForm},
		"two times, one with counters":  {nil, list(at(3), at(3, 1)), api.ErrSpineForm},
		"two times in upper, and early": {updates(up(1, 0, 1)), list(at(3), at(4)), api.ErrSpineForm},
		"of no kind":                    {updates(of(at(2), 1, api.Datum{})), list(at(3)), api.ErrSpineForm},
		"a kind with too much":          {updates(of(at(2), 1, api.Datum{Kind: api.KindInt, Int: 1, Bool: true})), list(at(3)), api.ErrSpineForm},
		"no UTF-8":                      {updates(of(at(2), 1, text("\xff"))), list(at(3)), api.ErrSpineForm},
		"a long text":                   {updates(of(at(2), 1, num(1), long)), list(at(3)), api.ErrSpineForm},
		"a wide row":                    {updates(of(at(2), 1, wide...)), list(at(3)), api.ErrSpineForm},
		"a wrong row, early":            {updates(up(1, 0, 1), of(at(2), 0, api.Datum{Kind: 5})), list(at(3)), api.ErrSpineForm},
		"a wrong row, and UPPER back":   {updates(of(at(2), 1, api.Datum{})), list(at(1)), api.ErrSpineForm},
		"before UPPER":                  {updates(up(1, 2, 1), up(1, 1, 1)), list(at(3)), api.ErrSpineEarly},
		"before UPPER, and 0":           {updates(up(1, 1, 0)), list(at(3)), api.ErrSpineEarly},
		"before UPPER, and cancelled":   {updates(up(1, 1, 1), up(1, 1, -1)), list(at(3)), api.ErrSpineEarly},
		"before UPPER, and for ever":    {updates(up(1, 1, 1)), nil, api.ErrSpineEarly},
		"at upper":                      {updates(up(1, 2, 1), up(1, 3, 1)), list(at(3)), api.ErrSpineEarly},
		"behind upper":                  {updates(up(1, 9, 1)), list(at(3)), api.ErrSpineEarly},
		"upper is UPPER":                {updates(up(1, 2, 1)), list(at(2)), api.ErrSpineEarly},
		"upper ahead of UPPER, early":   {updates(up(1, 0, 1)), list(at(1)), api.ErrSpineEarly},
		"upper ahead of UPPER, behind":  {updates(up(1, 5, 1)), list(at(1)), api.ErrSpineEarly},
		"nothing, and UPPER back":       {nil, list(at(1)), api.ErrSpineForm},
		"nothing, and UPPER back to 0":  {updates(), list(at(0)), api.ErrSpineForm},
	} {
		t.Run(name, func(t *testing.T) {
			s := two(t)
			inserts(t, s, x.l, x.upper, x.want)
			if x.want != api.OK {
				stands(t, s, list(at(0)), list(at(2)))
				sizes(t, s, 1, 2)
				all(t, s, up(1, 0, 1), up(1, 1, 1), up(2, 1, 1))
				return
			}
			stands(t, s, list(at(0)), x.upper)
		})
	}
}

// A batch is the sum of what was inserted; there is none where that comes to nothing.
func TestInsertAppendsSums(t *testing.T) {
	s := spine.New()
	insert(t, s, 3, up(2, 1, 1), up(1, 2, 1), up(2, 1, 1), up(1, 0, 5))
	sizes(t, s, 3)
	all(t, s, up(1, 0, 5), up(1, 2, 1), up(2, 1, 2))
	insert(t, s, 4)
	insert(t, s, 5, up(1, 4, 1), up(1, 4, -1), up(2, 4, 0))
	sizes(t, s, 3)
	insert(t, s, 6, up(1, 5, 1), up(1, 5, -1), up(2, 5, -2))
	sizes(t, s, 3, 1)
	stands(t, s, list(at(0)), list(at(6)))
	there(t, s, 4, counted(6, num(1)), counted(2, num(2)))
	there(t, s, 5, counted(6, num(1)))
	insert(t, s, 7, up(1, 6, math.MaxInt64), up(1, 6, 1))
	all(t, s, up(1, 0, 5), up(1, 2, 1), up(1, 6, math.MinInt64), up(2, 1, 2), up(2, 5, -2))
	there(t, s, 6, counted(math.MinInt64+6, num(1)))
}

// What is inserted below SINCE is a batch as it is, and is only told advanced.
func TestInsertBelowSince(t *testing.T) {
	s := spine.New()
	compacts(t, s, list(at(5)), api.OK)
	stands(t, s, list(at(5)), list(at(0)))
	insert(t, s, 3, up(1, 0, 1), up(1, 1, 1), up(1, 2, 1))
	sizes(t, s, 3)
	all(t, s, up(1, 5, 3))
	rows(t, s, row(num(1)), change(5, 3))
	for _, epoch := range []uint64{0, 3, 5, 9} {
		refuses(t, s, at(epoch), api.ErrSpineEarly)
	}
	insert(t, s, 7, up(1, 3, 1), up(1, 6, 1))
	all(t, s, up(1, 5, 4), up(1, 6, 1))
	there(t, s, 5, counted(4, num(1)))
	there(t, s, 6, counted(5, num(1)))
	refuses(t, s, at(4), api.ErrSpineEarly)
	refuses(t, s, at(7), api.ErrSpineEarly)
}

func TestNothingComesBehindTheEnd(t *testing.T) {
	s := two(t)
	inserts(t, s, updates(up(7, math.MaxUint64, 1)), nil, api.OK)
	stands(t, s, list(at(0)), nil)
	inserts(t, s, updates(up(1, math.MaxUint64, 1)), nil, api.ErrSpineEarly)
	inserts(t, s, updates(up(1, 5, 1)), list(at(6)), api.ErrSpineEarly)
	inserts(t, s, nil, list(at(math.MaxUint64)), api.ErrSpineForm)
	inserts(t, s, nil, nil, api.OK)
	stands(t, s, list(at(0)), nil)
	there(t, s, math.MaxUint64-1, counted(2, num(1)), counted(1, num(2)))
	there(t, s, math.MaxUint64, counted(2, num(1)), counted(1, num(2)), counted(1, num(7)))
}

func TestCompact(t *testing.T) {
	for name, x := range map[string]struct {
		since []api.Time
		want  api.Errno
	}{
		"there":                     {list(at(4)), api.OK},
		"further":                   {list(at(5)), api.OK},
		"beyond UPPER":              {list(at(math.MaxUint64)), api.OK},
		"for ever":                  {nil, api.OK},
		"back":                      {list(at(3)), api.ErrSpineEarly},
		"back to 0":                 {list(at(0)), api.ErrSpineEarly},
		"counters":                  {list(at(5, 0)), api.ErrSpineForm},
		"counters, back":            {list(at(3, 9)), api.ErrSpineForm},
		"two times":                 {list(at(5), at(6)), api.ErrSpineForm},
		"two times, back":           {list(at(1), at(2)), api.ErrSpineForm},
		"one time twice":            {list(at(5), at(5)), api.ErrSpineForm},
		"two times, one of a depth": {list(at(5), at(5, 5)), api.ErrSpineForm},
	} {
		t.Run(name, func(t *testing.T) {
			s := two(t)
			compacts(t, s, list(at(4)), api.OK)
			compacts(t, s, x.since, x.want)
			sizes(t, s, 1, 2)
			if x.want != api.OK {
				stands(t, s, list(at(4)), list(at(2)))
				all(t, s, up(1, 4, 2), up(2, 4, 1))
				return
			}
			stands(t, s, x.since, list(at(2)))
		})
	}
}

func TestCompactForEver(t *testing.T) {
	s := two(t)
	compacts(t, s, nil, api.OK)
	stands(t, s, nil, list(at(2)))
	all(t, s)
	rows(t, s, row(num(1)))
	for _, epoch := range []uint64{0, 1, 2, math.MaxUint64} {
		refuses(t, s, at(epoch), api.ErrSpineEarly)
	}
	refuses(t, s, at(1, 1), api.ErrSpineForm)
	compacts(t, s, list(at(math.MaxUint64)), api.ErrSpineEarly)
	compacts(t, s, list(at(0)), api.ErrSpineEarly)
	compacts(t, s, list(at(0), at(1)), api.ErrSpineForm)
	compacts(t, s, nil, api.OK)
	insert(t, s, 3, up(1, 2, 1))
	sizes(t, s, 1, 2, 1)
	all(t, s)
}

func TestAt(t *testing.T) {
	s := spine.New()
	insert(t, s, 3, up(1, 0, 1), up(2, 1, -2), up(1, 2, -1), of(at(1), 1, null(), text("a")), of(at(2), 1))
	insert(t, s, 6, up(2, 3, 1), up(1, 5, 7), of(at(4), -1))
	there(t, s, 0, counted(1, num(1)))
	there(t, s, 1, counted(1, null(), text("a")), counted(1, num(1)), counted(-2, num(2)))
	there(t, s, 2, counted(1), counted(1, null(), text("a")), counted(-2, num(2)))
	there(t, s, 3, counted(1), counted(1, null(), text("a")), counted(-1, num(2)))
	there(t, s, 4, counted(1, null(), text("a")), counted(-1, num(2)))
	there(t, s, 5, counted(1, null(), text("a")), counted(7, num(1)), counted(-1, num(2)))
	refuses(t, s, at(6), api.ErrSpineEarly)
	refuses(t, s, at(math.MaxUint64), api.ErrSpineEarly)
	refuses(t, s, at(5, 0), api.ErrSpineForm)
	refuses(t, s, at(9, 0, 0), api.ErrSpineForm)
	refuses(t, s, at(0, 0, 0, 0, 0), api.ErrSpineForm)
	compacts(t, s, list(at(3)), api.OK)
	refuses(t, s, at(2), api.ErrSpineEarly)
	refuses(t, s, at(2, 1), api.ErrSpineForm)
	there(t, s, 3, counted(1), counted(1, null(), text("a")), counted(-1, num(2)))
	there(t, s, 5, counted(1, null(), text("a")), counted(7, num(1)), counted(-1, num(2)))
}

func TestAll(t *testing.T) {
	s := spine.New()
	insert(t, s, 3, up(2, 2, 1), up(1, 0, 1), up(1, 2, -1), of(at(1), 1, text("a")))
	insert(t, s, 6, up(1, 5, 4), up(2, 4, -1), of(at(3), 1, text("")))
	all(t, s, up(1, 0, 1), up(1, 2, -1), up(1, 5, 4), up(2, 2, 1), up(2, 4, -1), of(at(3), 1, text("")), of(at(1), 1, text("a")))
	compacts(t, s, list(at(2)), api.OK)
	all(t, s, up(1, 5, 4), up(2, 2, 1), up(2, 4, -1), of(at(3), 1, text("")), of(at(2), 1, text("a")))
	compacts(t, s, list(at(4)), api.OK)
	all(t, s, up(1, 5, 4), of(at(4), 1, text("")), of(at(4), 1, text("a")))
	compacts(t, s, list(at(1000)), api.OK)
	all(t, s, up(1, 1000, 4), of(at(1000), 1, text("")), of(at(1000), 1, text("a")))
}

func TestRow(t *testing.T) {
	s := spine.New()
	insert(t, s, 3, up(2, 2, 1), up(1, 0, 1), up(1, 2, -1), of(at(1), 1, text("a")), of(at(1), 1, num(1), null()))
	insert(t, s, 6, up(1, 5, 4), up(1, 3, 2), up(2, 4, -1), of(at(3), 1))
	rows(t, s, row(num(1)), change(0, 1), change(2, -1), change(3, 2), change(5, 4))
	rows(t, s, row(num(2)), change(2, 1), change(4, -1))
	rows(t, s, row(num(1), null()), change(1, 1))
	rows(t, s, row(text("a")), change(1, 1))
	rows(t, s, row(), change(3, 1))
	for _, r := range []api.Row{row(num(0)), row(num(3)), row(null()), row(text("")), row(text("aa")), row(num(1), null(), null()), row(truth(true)), row(api.Datum{}), row(api.Datum{Kind: 9})} {
		rows(t, s, r)
	}
	compacts(t, s, list(at(2)), api.OK)
	rows(t, s, row(num(1)), change(3, 2), change(5, 4))
	compacts(t, s, list(at(4)), api.OK)
	rows(t, s, row(num(1)), change(4, 2), change(5, 4))
	rows(t, s, row(num(2)))
	rows(t, s, row(), change(4, 1))
}

// A row is that of row.Cmp, even one that could not be inserted.
func TestRowByOrder(t *testing.T) {
	s := two(t)
	rows(t, s, row(api.Datum{Kind: api.KindInt, Int: 1, Bool: true, Text: "x"}), change(0, 1), change(1, 1))
	rows(t, s, slices.Repeat(row(num(1)), 100))
}

func TestSpinesAreIndependent(t *testing.T) {
	a, b := two(t), two(t)
	insert(t, a, 3, up(3, 2, 1))
	works(t, a, 2, 0)
	compacts(t, a, list(at(1)), api.OK)
	stands(t, b, list(at(0)), list(at(2)))
	sizes(t, b, 1, 2)
	works(t, b, 3, 0)
	sizes(t, b, 3)
	all(t, b, up(1, 0, 1), up(1, 1, 1), up(2, 1, 1))
	sizes(t, a, 1, 2, 1)
}
