package stamp_test

import (
	"testing"

	"penstock/api"
	"penstock/stamp"
)

// lists is all lists of length counters below bound.
func lists(length int, bound uint32) [][]uint32 {
	if length == 0 {
		return [][]uint32{nil}
	}
	var out [][]uint32
	for _, l := range lists(length-1, bound) {
		for n := range bound {
			out = append(out, append(l[:length-1:length-1], n))
		}
	}
	return out
}

// times is all times of that depth whose Epoch and counters are below bound.
func times(depth int, bound uint32) []api.Time {
	var out []api.Time
	for _, l := range lists(depth+1, bound) {
		out = append(out, at(uint64(l[0]), l[1:]...))
	}
	return out
}

// paths is all paths from that depth to valid ones whose Add and counters are below bound.
func paths(depth int, bound uint32) []api.Path {
	var out []api.Path
	for leave := range depth + 1 {
		for add := range bound {
			for length := range api.MaxLoops - depth + leave + 1 {
				for _, l := range lists(length, bound) {
					out = append(out, path(leave, add, l...))
				}
			}
		}
	}
	return out
}

func depthOf(p api.Path, depth int) int { return depth - p.Leave + len(p.Enter) }

func applied(t *testing.T, p api.Path, to api.Time) api.Time {
	t.Helper()
	out, e := stamp.Apply(p, to)
	if e != api.OK {
		t.Fatalf("Apply(%v, %v) = %v", p, to, e)
	}
	return out
}

func TestLeqIsAPartialOrderAsCmpHasIt(t *testing.T) {
	all := append(times(0, 3), append(times(1, 3), times(2, 3)...)...)
	for _, a := range all {
		for _, b := range all {
			there, back := stamp.Leq(a, b), stamp.Leq(b, a)
			if (there && back) != same(a, b) {
				t.Fatalf("%v and %v: %v, %v", a, b, there, back)
			}
			if c := stamp.Cmp(a, b); there && c > 0 || (c == 0) != same(a, b) || c != -stamp.Cmp(b, a) {
				t.Fatalf("Leq(%v, %v) = %v, but Cmp is %d", a, b, there, c)
			}
			for _, c := range all {
				if there && stamp.Leq(b, c) && !stamp.Leq(a, c) {
					t.Fatalf("%v, %v, %v: not transitive", a, b, c)
				}
			}
		}
	}
}

func TestJoinIsTheLeastUpperBoundAndMeetTheGreatestLowerBound(t *testing.T) {
	for depth := range 3 {
		all := times(depth, 3)
		for _, a := range all {
			for _, b := range all {
				join, e := stamp.Join(a, b)
				meet, f := stamp.Meet(a, b)
				if e != api.OK || f != api.OK {
					t.Fatal(a, b, e, f)
				}
				for _, c := range all {
					if stamp.Leq(join, c) != (stamp.Leq(a, c) && stamp.Leq(b, c)) {
						t.Fatalf("Join(%v, %v) = %v, seen from %v", a, b, join, c)
					}
					if stamp.Leq(c, meet) != (stamp.Leq(c, a) && stamp.Leq(c, b)) {
						t.Fatalf("Meet(%v, %v) = %v, seen from %v", a, b, meet, c)
					}
				}
			}
		}
	}
}

func TestPathsPreserveLeq(t *testing.T) {
	for depth := range api.MaxLoops + 1 {
		all := times(depth, 2)
		for _, p := range paths(depth, 2) {
			for _, a := range all {
				for _, b := range all {
					if stamp.Leq(a, b) && !stamp.Leq(applied(t, p, a), applied(t, p, b)) {
						t.Fatalf("%v: of %v and %v", p, a, b)
					}
				}
			}
		}
	}
}

func TestThenIsOnePathAfterTheOther(t *testing.T) {
	for depth := range api.MaxLoops + 1 {
		for _, a := range paths(depth, 2) {
			for _, b := range paths(depthOf(a, depth), 2) {
				both, e := stamp.Then(a, b)
				if e != api.OK {
					t.Fatalf("Then(%v, %v) = %v", a, b, e)
				}
				for _, x := range []api.Time{at(5, 6, 7, 8), at(0, 1, 0, 3)} {
					x.Loops = x.Loops[:depth]
					if got, want := applied(t, both, x), applied(t, b, applied(t, a, x)); !same(got, want) {
						t.Fatalf("%v, then %v, of %v is %v, but together %v", a, b, x, want, got)
					}
				}
			}
		}
	}
}

// What errs on one side may not err on the other one: they agree where neither does.
func TestThenIsOnePathAfterTheOtherNearAllBounds(t *testing.T) {
	var all []api.Path
	for _, leave := range []int{-1, 0, 1, 2, 3, 4} {
		for _, add := range []uint32{0, 1, top} {
			for _, enter := range [][]uint32{nil, {0}, {top}, {1, top}, {top, 0}, {1, 2, 3}, {1, 2, 3, 4}} {
				all = append(all, path(leave, add, enter...))
			}
		}
	}
	agreed := 0
	for _, x := range []api.Time{at(0), at(ahead), at(7, 0), at(ahead, top), at(7, top, 0), at(1, 2, 3), at(1, 2, 3, 4), at(1, 2, 3, 4, 5)} {
		for _, a := range all {
			for _, b := range all {
				both, e := stamp.Then(a, b)
				first, f := stamp.Apply(a, x)
				if e != api.OK || f != api.OK {
					continue
				}
				got, e := stamp.Apply(both, x)
				want, f := stamp.Apply(b, first)
				if e == api.OK && f == api.OK {
					agreed++
					if !same(got, want) {
						t.Fatalf("%v, then %v, of %v is %v, but together %v", a, b, x, want, got)
					}
				}
			}
		}
	}
	if agreed < 1000 {
		t.Errorf("only %d agreed", agreed)
	}
}

// PathLeq holds exactly if no time tells that it does not: the counters of these times are beyond those of the paths.
func TestPathLeqIsLeqOfAllTimes(t *testing.T) {
	const bound = 2
	for depth := range api.MaxLoops + 1 {
		all, ways := times(depth, bound+1), paths(depth, bound)
		reached := make([][]api.Time, len(ways))
		for i, p := range ways {
			for _, x := range all {
				reached[i] = append(reached[i], applied(t, p, x))
			}
		}
		for i, a := range ways {
			for j, b := range ways {
				want := true
				for k := range all {
					want = want && stamp.Leq(reached[i][k], reached[j][k])
				}
				if got := stamp.PathLeq(a, b, depth); got != want {
					t.Fatalf("PathLeq(%v, %v, %d) = %v, want %v", a, b, depth, got, want)
				}
			}
		}
	}
}
