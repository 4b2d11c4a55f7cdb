package datum_test

import (
	"math"
	"math/big"
	"testing"

	"penstock/api"
	"penstock/datum"
)

func TestNumbersOfTheDocument(t *testing.T) {
	for _, x := range []struct {
		name string
		a, b int64
		want int64
		e    api.Errno
	}{
		{"Add", 2, 3, 5, api.OK}, {"Add", math.MaxInt64, 1, 0, api.ErrDatumOver}, {"Add", math.MinInt64, -1, 0, api.ErrDatumOver},
		{"Add", math.MaxInt64, math.MinInt64, -1, api.OK}, {"Add", math.MaxInt64 - 1, 1, math.MaxInt64, api.OK},
		{"Sub", 2, 3, -1, api.OK}, {"Sub", math.MinInt64, 1, 0, api.ErrDatumOver}, {"Sub", 0, math.MinInt64, 0, api.ErrDatumOver},
		{"Sub", -1, math.MinInt64, math.MaxInt64, api.OK}, {"Sub", math.MaxInt64, -1, 0, api.ErrDatumOver},
		{"Mul", -3, 4, -12, api.OK}, {"Mul", math.MinInt64, -1, 0, api.ErrDatumOver}, {"Mul", -1, math.MinInt64, 0, api.ErrDatumOver},
		{"Mul", 1 << 32, 1 << 31, 0, api.ErrDatumOver}, {"Mul", -(1 << 32), 1 << 31, math.MinInt64, api.OK},
		{"Mul", 1 << 32, 1 << 32, 0, api.ErrDatumOver}, {"Mul", 0, math.MinInt64, 0, api.OK}, {"Mul", math.MinInt64, 1, math.MinInt64, api.OK},
		{"Div", 7, 2, 3, api.OK}, {"Div", -7, 2, -3, api.OK}, {"Div", 7, -2, -3, api.OK}, {"Div", -7, -2, 3, api.OK},
		{"Div", 0, 0, 0, api.ErrDatumZero}, {"Div", math.MinInt64, 0, 0, api.ErrDatumZero}, {"Div", math.MinInt64, -1, 0, api.ErrDatumOver},
		{"Div", math.MinInt64, 1, math.MinInt64, api.OK}, {"Div", math.MaxInt64, -1, -math.MaxInt64, api.OK},
		{"Mod", 7, 2, 1, api.OK}, {"Mod", -7, 2, -1, api.OK}, {"Mod", 7, -2, 1, api.OK}, {"Mod", -7, -2, -1, api.OK},
		{"Mod", 1, 0, 0, api.ErrDatumZero}, {"Mod", math.MinInt64, -1, 0, api.OK}, {"Mod", 5, -1, 0, api.OK},
	} {
		want := api.Datum{}
		if x.e == api.OK {
			want = num(x.want)
		}
		d, e := binaries()[x.name](num(x.a), num(x.b))
		answered(t, x.name, d, e, want, x.e)
	}
}

// exact is what an operation comes to, without bounds; nil: divided by zero.
func exact(name string, a, b int64) *big.Int {
	x, y, z := big.NewInt(a), big.NewInt(b), new(big.Int)
	switch name {
	case "Add":
		return z.Add(x, y)
	case "Sub":
		return z.Sub(x, y)
	case "Mul":
		return z.Mul(x, y)
	}
	if b == 0 {
		return nil
	}
	if name == "Div" {
		return z.Quo(x, y)
	}
	return z.Rem(x, y)
}

func exactAnswer(n *big.Int) (api.Datum, api.Errno) {
	switch {
	case n == nil:
		return api.Datum{}, api.ErrDatumZero
	case !n.IsInt64():
		return api.Datum{}, api.ErrDatumOver
	}
	return num(n.Int64()), api.OK
}

// edges is numbers about every power of two, of both signs.
func edges() []int64 {
	out := []int64{0, 10, -10, 3037000499, 3037000500, -3037000499, -3037000500}
	for i := range 63 {
		p := int64(1) << i
		out = append(out, p, -p, p-1, 1-p, p+1, -p-1)
	}
	return append(out, math.MinInt64, math.MinInt64+1, math.MaxInt64)
}

func TestNumbersAreExact(t *testing.T) {
	for _, a := range edges() {
		d, e := datum.Neg(num(a))
		want, wantErr := exactAnswer(exact("Sub", 0, a))
		answered(t, "Neg", d, e, want, wantErr)
		for _, b := range edges() {
			for _, name := range []string{"Add", "Sub", "Mul", "Div", "Mod"} {
				d, e := binaries()[name](num(a), num(b))
				want, wantErr := exactAnswer(exact(name, a, b))
				answered(t, name, d, e, want, wantErr)
			}
		}
	}
}

func TestNullGoesAheadOfZero(t *testing.T) {
	for _, name := range []string{"Div", "Mod"} {
		d, e := binaries()[name](null, num(0))
		answered(t, name, d, e, null, api.OK)
		d, e = binaries()[name](text("a"), num(0))
		answered(t, name, d, e, api.Datum{}, api.ErrDatumForm)
	}
}
