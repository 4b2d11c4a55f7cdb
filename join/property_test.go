package join_test

import (
	"math"
	"math/rand/v2"
	"slices"
	"testing"

	"penstock/api"
	"penstock/chain"
	"penstock/datum"
	"penstock/delta"
	"penstock/join"
	"penstock/stamp"
)

// model is a join as the chapter describes it: each pair is held against the columns.
type model struct {
	leftCols, rightCols []int
	left, right         []api.Update
}

func column(r api.Row, c int) (api.Datum, bool) {
	if c >= len(r) {
		return api.Datum{}, false
	}
	return r[c], true
}

func (m *model) match(l, r api.Update) bool {
	for i := range m.leftCols {
		a, some := column(l.Row, m.leftCols[i])
		b, other := column(r.Row, m.rightCols[i])
		if !some || !other || datum.Cmp(a, b) != 0 {
			return false
		}
	}
	return len(l.Time.Loops) == len(r.Time.Loops)
}

// pairs is what comes of all of l with all of r.
func (m *model) pairs(l, r []api.Update) (out []api.Update) {
	for _, a := range l {
		for _, b := range r {
			if m.match(a, b) {
				t, _ := stamp.Join(a.Time, b.Time)
				out = append(out, api.Update{Row: slices.Concat(a.Row, b.Row), Time: t, Diff: a.Diff * b.Diff})
			}
		}
	}
	return out
}

func (m *model) push(left, right []api.Update) []api.Update {
	out := slices.Concat(m.pairs(left, m.right), m.pairs(m.left, right), m.pairs(left, right))
	m.left, m.right = slices.Concat(m.left, left), slices.Concat(m.right, right)
	return delta.Sum(out)
}

func (m *model) compact(since []api.Time) {
	m.left, m.right = delta.Advance(m.left, since), delta.Advance(m.right, since)
}

func (m *model) size() int { return len(delta.Sum(m.left)) + len(delta.Sum(m.right)) }

// dice draws what is pushed; the same each time.
type dice struct{ *rand.Rand }

func seeded(n uint64) dice { return dice{rand.New(rand.NewPCG(14, n))} }

func (d dice) row() api.Row {
	some := api.Row{num(0), num(1), num(0), num(1), null(), num(-1), truth(true), text(""), text("1"), text("'a', '"), text("\\n")}
	var out api.Row
	for range d.IntN(4) {
		out = append(out, some[d.IntN(len(some))])
	}
	return out
}

func (d dice) time(depth, bound int) api.Time {
	t := at(uint64(d.IntN(bound)))
	for range depth {
		t.Loops = append(t.Loops, uint32(d.IntN(bound)))
	}
	return t
}

// depth is most often 0.
func (d dice) depth() int { return max(d.IntN(7), 3) - 3 }

func (d dice) diff() int64 {
	if d.IntN(20) == 0 {
		return []int64{math.MinInt64, math.MaxInt64, 1 << 62, 1 << 32}[d.IntN(4)]
	}
	return int64(d.IntN(5) - 2)
}

func (d dice) updates(n int) []api.Update {
	var out []api.Update
	for range n {
		out = append(out, api.Update{Row: d.row(), Time: d.time(d.depth(), 4), Diff: d.diff()})
	}
	return out
}

func (d dice) since() (out []api.Time) {
	for range d.IntN(4) {
		out = append(out, d.time(d.depth(), 4))
	}
	return out
}

// cols is as many columns of both sides: most often of one, or none.
func (d dice) cols() (left, right []int) {
	for range min(d.IntN(4), 1+d.IntN(2)) {
		left, right = append(left, d.IntN(3)), append(right, d.IntN(3))
	}
	return left, right
}

func TestJoinIsThatOfThePlainModel(t *testing.T) {
	d := seeded(1)
	told, compacted := 0, 0
	for range 250 {
		left, right := d.cols()
		j, m := by(t, left, right), &model{leftCols: left, rightCols: right}
		for range 20 {
			if d.IntN(6) == 0 {
				since, before := d.since(), m.size()
				j.Compact(since)
				m.compact(since)
				compacted += before - m.size()
			}
			l, r := d.updates(d.IntN(5)), d.updates(d.IntN(5))
			got, want := j.Push(l, r), m.push(l, r)
			if !sameUpdates(got, want) {
				t.Fatalf("by %v and %v, Push(%v, %v) = %v, want %v", left, right, l, r, got, want)
			}
			told += len(got)
			if d.IntN(2) == 0 && j.Len() != m.size() {
				t.Fatalf("by %v and %v, Len() = %d, want %d", left, right, j.Len(), m.size())
			}
		}
	}
	if told < 20000 || compacted < 300 {
		t.Errorf("only %d updates were told, and %d combined", told, compacted)
	}
}

// divided pushes l and r in parts, in their order, whatever of one comes ahead of what of the other.
func (d dice) divided(j *join.Join, l, r []api.Update) (told []api.Update) {
	for len(l)+len(r) > 0 {
		i, k := d.IntN(min(len(l), 5)+1), d.IntN(min(len(r), 5)+1)
		told = append(told, j.Push(l[:i], r[:k])...)
		l, r = l[i:], r[k:]
	}
	return told
}

// The sum of all that was told is that of all combinations, whatever was pushed when.
func TestDivisionIntoCalls(t *testing.T) {
	d := seeded(2)
	for range 150 {
		left, right := d.cols()
		l, r := d.updates(d.IntN(40)), d.updates(d.IntN(40))
		m := &model{leftCols: left, rightCols: right}
		want := delta.Sum(m.pairs(l, r))
		for range 3 {
			j := by(t, left, right)
			if got := delta.Sum(d.divided(j, l, r)); !sameUpdates(got, want) {
				t.Fatalf("by %v and %v, %v and %v come to %v, want %v", left, right, l, r, got, want)
			}
			if n := len(delta.Sum(l)) + len(delta.Sum(r)); j.Len() != n {
				t.Fatalf("%d updates of %v and %v, want %d", j.Len(), l, r, n)
			}
			d.Shuffle(len(l), func(i, k int) { l[i], l[k] = l[k], l[i] })
			d.Shuffle(len(r), func(i, k int) { r[i], r[k] = r[k], r[i] })
		}
	}
}

// seen is all times of up to two counters to look from.
func seen(bound uint32) (out []api.Time) {
	for epoch := range uint64(bound) {
		out = append(out, at(epoch))
		for a := range bound {
			out = append(out, at(epoch, a))
			for b := range bound {
				out = append(out, at(epoch, a, b))
			}
		}
	}
	return out
}

// frontier is one or two times of each depth.
func (d dice) frontier() (out []api.Time) {
	for depth := range 3 {
		for range 1 + d.IntN(2) {
			out = append(out, d.time(depth, 3))
		}
	}
	return out
}

// Who looks from beyond since sees the same, whether or not it was compacted.
func TestResultsBehindCompact(t *testing.T) {
	d := seeded(3)
	from, beyond, combined := seen(5), 0, 0
	for range 150 {
		left, right := d.cols()
		plain, compacted := by(t, left, right), by(t, left, right)
		since := list(at(0), at(0, 0), at(0, 0, 0))
		for range 4 {
			l, r := d.updates(d.IntN(12)), d.updates(d.IntN(12))
			want, got := plain.Push(l, r), compacted.Push(l, r)
			for _, x := range from {
				if !chain.Beyond(since, x) {
					continue
				}
				beyond++
				if !sameBag(delta.At(got, x), delta.At(want, x)) {
					t.Fatalf("compacted to %v, %v is told, instead of %v: at %v it differs", since, got, want, x)
				}
			}
			since = chain.Join(since, d.frontier())
			compacted.Compact(since)
			combined += plain.Len() - compacted.Len()
		}
	}
	if beyond < 20000 || combined < 300 {
		t.Errorf("only %d times were beyond, and %d updates combined", beyond, combined)
	}
}

func sameBag(a, b []api.Counted) bool {
	return slices.EqualFunc(a, b, func(x, y api.Counted) bool { return x.Count == y.Count && slices.Equal(x.Row, y.Row) })
}
