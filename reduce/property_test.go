package reduce_test

import (
	"math"
	"math/rand/v2"
	"slices"
	"testing"

	"penstock/api"
	"penstock/chain"
	"penstock/delta"
	"penstock/reduce"
	"penstock/stamp"
)

// dice draws what is pushed; the same each time.
type dice struct{ *rand.Rand }

func seeded(n uint64) dice { return dice{rand.New(rand.NewPCG(15, n))} }

func (d dice) row() api.Row {
	some := api.Row{num(0), num(1), num(0), num(1), num(2), null(), num(-1), truth(true), text(""), text("1"), num(math.MaxInt64), num(math.MinInt64)}
	var out api.Row
	for range d.IntN(4) {
		out = append(out, some[d.IntN(2+d.IntN(len(some)-1))])
	}
	return out
}

// narrow is a row of few that may be.
func (d dice) narrow() api.Row {
	return nums(int64(d.IntN(2)), int64(d.IntN(3)))
}

func (d dice) diff() int64 {
	if d.IntN(20) == 0 {
		return []int64{math.MinInt64, math.MaxInt64, 1 << 62, 1 << 32}[d.IntN(4)]
	}
	return int64(d.IntN(6) - 2)
}

func (d dice) time(depth, bound int) api.Time {
	t := at(uint64(d.IntN(bound)))
	for range depth {
		t.Loops = append(t.Loops, uint32(d.IntN(bound)))
	}
	return t
}

// depth is most often 0.
func (d dice) depth() int { return max(d.IntN(6), 3) - 3 }

func (d dice) updates(n int) []api.Update {
	var out []api.Update
	for range n {
		u := api.Update{Row: d.row(), Time: d.time(d.depth(), 4), Diff: d.diff()}
		if d.IntN(2) == 0 {
			u.Row = d.narrow()
		}
		out = append(out, u)
	}
	return out
}

func (d dice) expr() api.Expr {
	return []api.Expr{
		col(0), col(0), col(1), col(1), lit(num(7)), lit(null()), on(api.ExprAdd, col(0), col(1)), on(api.ExprDiv, lit(num(6)), col(1)),
		on(api.ExprCase, on(api.ExprEq, col(0), lit(num(1))), fail(api.ErrMirMinus), col(1)), on(api.ExprCoalesce, col(2), col(0)), {},
	}[d.IntN(11)]
}

func (d dice) cols() (out []int) {
	for range d.IntN(3) {
		out = append(out, d.IntN(3))
	}
	return out
}

func (d dice) spec() api.Rel {
	out := api.Rel{Kind: []uint8{api.RelReduce, api.RelReduce, api.RelTop, api.RelThreshold}[d.IntN(4)], Cols: d.cols()}
	for range d.IntN(4) {
		out.Aggs = append(out.Aggs, api.Agg{Func: uint8(1 + d.IntN(5)), Expr: d.expr(), Distinct: d.IntN(3) == 0})
	}
	if out.Kind == api.RelTop {
		out.Limit, out.Offset = d.IntN(8)-1, max(0, d.IntN(6)-3)
		for range d.IntN(3) {
			out.Order = append(out.Order, api.Sort{Col: d.IntN(4), Down: d.IntN(2) == 0})
		}
	}
	return out
}

func TestGroupIsThatOfThePlainModel(t *testing.T) {
	d := seeded(1)
	some, wrong := 0, 0
	for range 20000 {
		spec := d.spec()
		var l []api.Counted
		for range d.IntN(8) {
			l = append(l, api.Counted{Row: d.row(), Count: d.diff()})
			if n := d.IntN(4); n > 0 {
				l[len(l)-1] = api.Counted{Row: d.narrow(), Count: int64(n)}
			}
		}
		key := reduce.Key(spec, d.row())
		want, errs := plainResult(spec, key, l)
		comesTo(t, "by chance", spec, key, l, want, errs)
		some, wrong = some+len(want), wrong+len(errs)
	}
	if some < 10000 || wrong < 4000 {
		t.Errorf("only %d rows, and %d faults", some, wrong)
	}
}

// frontier is some times, not all of them apart.
func (d dice) frontier(bound int) (out []api.Time) {
	for depth := range 3 {
		for range d.IntN(3) {
			out = append(out, d.time(depth, bound))
		}
	}
	return out
}

func TestReduceIsThatOfThePlainModel(t *testing.T) {
	d := seeded(2)
	told, bad, waited := 0, 0, 0
	for range 1500 {
		spec := d.spec()
		r, m := made(t, spec), &model{spec: spec}
		for range 20 {
			l := d.updates(d.IntN(5))
			pushes(t, r, l, m.push(l)...)
			waited += len(m.waiting())
			waits(t, r, m.waiting()...)
			if d.IntN(3) > 0 {
				continue
			}
			frontier := d.frontier(5)
			want, wrong := m.close(frontier)
			closesWith(t, r, frontier, want, wrong)
			waits(t, r, m.waiting()...)
			told, bad = told+len(want), bad+len(wrong)
		}
		want, wrong := m.close(nil)
		closesWith(t, r, nil, want, wrong)
		waits(t, r)
		if t.Failed() {
			t.Fatalf("of %v", spec)
		}
	}
	if told < 15000 || bad < 9000 || waited < 140000 {
		t.Errorf("only %d updates, and %d of errors, and %d waited", told, bad, waited)
	}
}

// grid is all times of up to two counters to look from.
func grid(bound uint32) (out []api.Time) {
	for epoch := range uint64(bound) {
		out = append(out, at(epoch))
		for a := range bound {
			out = append(out, at(epoch, a))
			for b := range bound {
				out = append(out, at(epoch, a, b))
			}
		}
	}
	return out
}

// At each time that is closed, what was told comes to what Group makes of what was pushed, however it was divided.
func TestResultsAtAllTimes(t *testing.T) {
	d := seeded(3)
	times, looked := grid(4), 0
	for range 120 {
		spec := d.spec()
		r := made(t, spec)
		var pushed, told, bad []api.Update
		for range 8 {
			l := d.updates(d.IntN(8))
			pushed = append(pushed, l...)
			for len(l) > 0 {
				n := 1 + d.IntN(len(l))
				r.Push(l[:n])
				l = l[n:]
			}
			frontier := d.frontier(5)
			rows, errs := r.Close(frontier)
			told, bad = append(told, rows...), append(bad, errs...)
			for _, x := range times {
				if chain.Beyond(frontier, x) {
					continue
				}
				looked++
				want, wrong := result(spec, pushed, x)
				if got, errs := delta.At(told, x), delta.At(bad, x); !sameBag(got, want) || !sameBag(errs, wrong) {
					t.Fatalf("at %v, %v come by %v to %v and %v, want %v and %v", x, pushed, spec, got, errs, want, wrong)
				}
			}
		}
	}
	if looked < 10000 {
		t.Errorf("looked at %d times only", looked)
	}
}

// What is told in all is the same, whatever is pushed and closed when, as long as nothing comes late.
func TestDivisionIntoCalls(t *testing.T) {
	d := seeded(4)
	for range 150 {
		spec, depth := d.spec(), d.depth()
		var l []api.Update
		for _, u := range d.updates(d.IntN(30)) {
			u.Time = d.time(depth, 4)
			l = append(l, u)
		}
		whole := made(t, spec)
		whole.Push(l)
		want, wrong := whole.Close(nil)
		for range 3 {
			d.Shuffle(len(l), func(i, k int) { l[i], l[k] = l[k], l[i] })
			r, rest := made(t, spec), slices.Clone(l)
			var told, bad []api.Update
			for epoch := range uint64(5) { // all of an epoch at the latest, and some that are ahead
				for i := 0; i < len(rest); i++ {
					if rest[i].Time.Epoch == epoch || d.IntN(4) == 0 {
						r.Push(rest[i : i+1])
						rest = slices.Delete(rest, i, i+1)
						i--
					}
				}
				rows, errs := r.Close(list(api.Time{Epoch: epoch + 1, Loops: make([]uint32, depth)}))
				told, bad = append(told, rows...), append(bad, errs...)
			}
			if got, errs := delta.Sum(told), delta.Sum(bad); !sameUpdates(got, want) || !sameUpdates(errs, wrong) {
				t.Fatalf("%v come by %v to %v and %v, want %v and %v", l, spec, got, errs, want, wrong)
			}
			waits(t, r)
		}
	}
}

// Results are in the form of delta.Sum, times in the order of stamp.Cmp; what waits is what Push has told and Close has not closed.
func TestFormsOfResults(t *testing.T) {
	d := seeded(5)
	for range 200 {
		r := made(t, d.spec())
		var waiting []api.Time
		for range 12 {
			come := r.Push(d.updates(d.IntN(5)))
			for i, x := range come {
				if has(waiting, x) || i > 0 && stamp.Cmp(come[i-1], x) >= 0 {
					t.Fatalf("%v come to %v", come, waiting)
				}
			}
			waiting = slices.SortedFunc(slices.Values(slices.Concat(waiting, come)), stamp.Cmp)
			waits(t, r, waiting...)
			if d.IntN(2) == 0 {
				continue
			}
			frontier := d.frontier(5)
			rows, errs := r.Close(frontier)
			for _, l := range [][]api.Update{rows, errs} {
				if !sameUpdates(l, delta.Sum(l)) {
					t.Fatalf("%v is no sum", l)
				}
				for _, u := range l {
					if chain.Beyond(frontier, u.Time) || !has(waiting, u.Time) {
						t.Fatalf("%v is told, when %v wait, up to %v", u, waiting, frontier)
					}
				}
			}
			waiting = slices.DeleteFunc(waiting, func(x api.Time) bool { return !chain.Beyond(frontier, x) })
			waits(t, r, waiting...)
		}
	}
}
