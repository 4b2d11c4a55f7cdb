package share_test

import (
	"math"
	"testing"

	"penstock/api"
	"penstock/share"
)

// As long as Upper is not beyond what a handle held initially, it has seen nothing.
func TestNextAhead(t *testing.T) {
	s := two(t)
	h := hold(t, s, 4)
	reads(t, h, 4)
	for upper := uint64(3); upper <= 4; upper++ {
		insert(t, s, upper, up(1, upper-1, 1))
		reads(t, h, 4)
		reads(t, h, 4)
		holds(t, h, 4)
	}
	insert(t, s, 5)
	reads(t, h, 5, up(1, 4, 3), up(2, 4, 1))
	reads(t, h, 5)
}

func TestNextBegins(t *testing.T) {
	s := share.New()
	insert(t, s, 6, up(2, 0, 1), up(1, 3, 1), up(1, 1, 1), up(1, 5, -2), up(2, 3, -1), up(3, 4, 1), up(2, 5, 1), of(at(3), 1), of(at(5), 1, text("a")))
	for epoch, want := range [][]api.Update{
		{of(at(3), 1), up(1, 1, 1), up(1, 3, 1), up(1, 5, -2), up(2, 0, 1), up(2, 3, -1), up(2, 5, 1), up(3, 4, 1), of(at(5), 1, text("a"))},
		{of(at(3), 1), up(1, 1, 1), up(1, 3, 1), up(1, 5, -2), up(2, 1, 1), up(2, 3, -1), up(2, 5, 1), up(3, 4, 1), of(at(5), 1, text("a"))},
		{of(at(3), 1), up(1, 2, 1), up(1, 3, 1), up(1, 5, -2), up(2, 2, 1), up(2, 3, -1), up(2, 5, 1), up(3, 4, 1), of(at(5), 1, text("a"))},
		{of(at(3), 1), up(1, 3, 2), up(1, 5, -2), up(2, 5, 1), up(3, 4, 1), of(at(5), 1, text("a"))},
		{of(at(4), 1), up(1, 4, 2), up(1, 5, -2), up(2, 5, 1), up(3, 4, 1), of(at(5), 1, text("a"))},
		{of(at(5), 1), up(2, 5, 1), up(3, 5, 1), of(at(5), 1, text("a"))},
	} {
		h := hold(t, s, uint64(epoch))
		reads(t, h, 6, want...)
		reads(t, h, 6)
		holds(t, h, uint64(epoch))
	}
	reads(t, hold(t, s, 6), 6)
}

// A handle that has seen nothing begins with the bag at what it held initially, however much has come meanwhile.
func TestNextBeginsLate(t *testing.T) {
	s := two(t)
	h := hold(t, s, 3)
	reads(t, h, 3)
	insert(t, s, 3, up(1, 2, 1))
	reads(t, h, 3)
	insert(t, s, 6, up(1, 3, 1), up(2, 4, -1), up(3, 5, 1))
	allows(t, s, 6, api.OK)
	works(t, s, 100, 91)
	stands(t, s, 3, 6, 1)
	reads(t, h, 6, up(1, 3, 3), up(2, 3, 1), up(2, 4, -1), up(3, 5, 1))
	reads(t, h, 6)
}

func TestNextGoesOn(t *testing.T) {
	s := two(t)
	h := hold(t, s, 1)
	reads(t, h, 2, up(1, 1, 1), up(2, 1, 1))
	reads(t, h, 2)
	insert(t, s, 3)
	reads(t, h, 3)
	insert(t, s, 5, up(1, 3, 1), up(1, 3, 1), up(1, 4, 1), up(2, 4, 1), up(2, 4, -1))
	insert(t, s, 7, up(1, 5, -3), of(at(6), 1))
	reads(t, h, 7, of(at(6), 1), up(1, 3, 2), up(1, 4, 1), up(1, 5, -3))
	reads(t, h, 7)
	insert(t, s, 8, up(2, 7, math.MaxInt64))
	insert(t, s, 9, up(2, 8, math.MaxInt64))
	reads(t, h, 9, up(2, 7, math.MaxInt64), up(2, 8, math.MaxInt64))
	holds(t, h, 1)
}

// What was seen stays unseen by others, and what came is told where it came, however much was allowed.
func TestHandlesReadByThemselves(t *testing.T) {
	s := share.New()
	a, b := hold(t, s, 0), hold(t, s, 0)
	insert(t, s, 2, up(1, 0, 1), up(1, 1, 1))
	reads(t, a, 2, up(1, 0, 1), up(1, 1, 1))
	insert(t, s, 4, up(1, 2, 1), up(1, 3, 1))
	allows(t, s, 4, api.OK)
	allows(t, a, 1, api.OK)
	works(t, s, 100, 96)
	stands(t, s, 0, 4, 2)
	reads(t, b, 4, up(1, 0, 1), up(1, 1, 1), up(1, 2, 1), up(1, 3, 1))
	b.Drop()
	works(t, s, 100, 100)
	stands(t, s, 1, 4, 1)
	reads(t, a, 4, up(1, 2, 1), up(1, 3, 1))
	allows(t, a, 3, api.OK)
	reads(t, a, 4)
	insert(t, s, 6, up(1, 4, 1), up(1, 5, 1), up(2, 4, 1))
	works(t, s, 100, 93)
	reads(t, a, 6, up(1, 4, 1), up(1, 5, 1), up(2, 4, 1))
}

// The greatest epochs are epochs like all others.
func TestGreatestEpochs(t *testing.T) {
	const greatest = math.MaxUint64
	s := two(t)
	h, k := hold(t, s, greatest-1), hold(t, s, greatest)
	insert(t, s, greatest, up(3, greatest-1, 1))
	allows(t, s, greatest, api.OK)
	stands(t, s, greatest-1, greatest, 2)
	reads(t, h, greatest, up(1, greatest-1, 1), up(2, greatest-1, 1), up(3, greatest-1, 1))
	reads(t, k, greatest)
	allows(t, h, greatest, api.ErrShareForm)
	h.Drop()
	ended(t, h, greatest-1)
	stands(t, s, greatest, greatest, 1)
	refuses(t, s, greatest-1, api.ErrShareSince)
	refuses(t, s, greatest, api.ErrSpineEarly)
}

func TestHandleAllow(t *testing.T) {
	s := share.New()
	insert(t, s, 9, up(1, 0, 1), up(2, 5, 1))
	h := hold(t, s, 3)
	allows(t, s, 9, api.OK)
	check := func(since uint64, want api.Errno, after uint64) {
		t.Helper()
		allows(t, h, since, want)
		holds(t, h, after)
		stands(t, s, after, 9, 1)
	}
	// It has seen nothing.
	for _, since := range []uint64{0, 2, 4, 8, 9, math.MaxUint64} {
		check(since, api.ErrShareForm, 3)
	}
	check(3, api.OK, 3)
	reads(t, h, 9, up(1, 3, 1), up(2, 5, 1))
	// It has seen what is below 9.
	for _, since := range []uint64{0, 2, 9, 10, math.MaxUint64} {
		check(since, api.ErrShareForm, 3)
	}
	check(3, api.OK, 3)
	check(6, api.OK, 6)
	check(5, api.ErrShareForm, 6)
	check(9, api.ErrShareForm, 6)
	check(8, api.OK, 8)
	check(8, api.OK, 8)
	check(7, api.ErrShareForm, 8)
	check(9, api.ErrShareForm, 8)
	// What has come is not what it has seen.
	insert(t, s, 12)
	allows(t, h, 9, api.ErrShareForm)
	reads(t, h, 12)
	allows(t, h, 12, api.ErrShareForm)
	allows(t, h, 11, api.OK)
	stands(t, s, 9, 12, 1)
}

// What a handle holds initially may be ahead of Upper: it may not hold more, even if it is passed by, before it has been asked.
func TestHandleAllowAhead(t *testing.T) {
	s := two(t)
	h := hold(t, s, 5)
	allows(t, h, 1, api.ErrShareForm)
	allows(t, h, 6, api.ErrShareForm)
	allows(t, h, 5, api.OK)
	reads(t, h, 5)
	allows(t, h, 4, api.ErrShareForm)
	insert(t, s, 8, up(1, 2, 1), up(1, 7, 1))
	allows(t, h, 6, api.ErrShareForm)
	allows(t, h, 5, api.OK)
	reads(t, h, 8, up(1, 5, 2), up(1, 7, 1), up(2, 5, 1))
	allows(t, h, 8, api.ErrShareForm)
	allows(t, h, 7, api.OK)
	holds(t, h, 7)
}

// A handle that holds 0, and has seen nothing, may hold 0 alone.
func TestHandleOfTheBeginning(t *testing.T) {
	s := share.New()
	h := hold(t, s, 0)
	reads(t, h, 0)
	allows(t, h, 0, api.OK)
	allows(t, h, 1, api.ErrShareForm)
	allows(t, h, math.MaxUint64, api.ErrShareForm)
	insert(t, s, 1)
	allows(t, h, 1, api.ErrShareForm)
	reads(t, h, 1)
	allows(t, h, 1, api.ErrShareForm)
	allows(t, h, 0, api.OK)
	insert(t, s, 2, up(1, 1, 1))
	reads(t, h, 2, up(1, 1, 1))
	allows(t, h, 2, api.ErrShareForm)
	allows(t, h, 1, api.OK)
}

func TestDrop(t *testing.T) {
	s := two(t)
	seen, unseen, ahead, other := hold(t, s, 1), hold(t, s, 1), hold(t, s, 7), hold(t, s, 0)
	reads(t, seen, 2, up(1, 1, 1), up(2, 1, 1))
	allows(t, s, 2, api.OK)
	stands(t, s, 0, 2, 4)
	for i, h := range []*share.Handle{seen, unseen, ahead} {
		held := h.Since()
		for range 3 {
			h.Drop()
			stands(t, s, 0, 2, 3-i)
			ended(t, h, held)
		}
	}
	insert(t, s, 3, up(1, 2, 1))
	for _, h := range []*share.Handle{seen, unseen, ahead} {
		ended(t, h, h.Since())
	}
	reads(t, other, 3, up(1, 0, 1), up(1, 2, 1), up(2, 1, 1))
	other.Drop()
	stands(t, s, 2, 3, 0)
	other.Drop()
	seen.Drop()
	stands(t, s, 2, 3, 0)
	there(t, s, 2, counted(2, num(1)), counted(1, num(2)))
}

// Dropping a handle again lets go nothing that another one holds by now.
func TestDropAgain(t *testing.T) {
	s := two(t)
	h := hold(t, s, 1)
	h.Drop()
	k := hold(t, s, 1)
	allows(t, s, 2, api.OK)
	h.Drop()
	stands(t, s, 1, 2, 1)
	reads(t, k, 2, up(1, 1, 1), up(2, 1, 1))
	ended(t, h, 1)
}
