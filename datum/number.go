package datum

import (
	"math"

	"penstock/api"
)

func Neg(a api.Datum) (api.Datum, api.Errno) { return numbers(integer(0), a, difference) }

func Add(a, b api.Datum) (api.Datum, api.Errno) { return numbers(a, b, sum) }

func Sub(a, b api.Datum) (api.Datum, api.Errno) { return numbers(a, b, difference) }

func Mul(a, b api.Datum) (api.Datum, api.Errno) { return numbers(a, b, product) }

func Div(a, b api.Datum) (api.Datum, api.Errno) { return numbers(a, b, quotient) }

func Mod(a, b api.Datum) (api.Datum, api.Errno) { return numbers(a, b, remainder) }

func numbers(a, b api.Datum, f func(x, y int64) (int64, api.Errno)) (api.Datum, api.Errno) {
	return strict(api.KindInt, a, b, func(a, b api.Datum) (api.Datum, api.Errno) {
		n, e := f(a.Int, b.Int)
		if e != api.OK {
			return api.Datum{}, e
		}
		return integer(n), api.OK
	})
}

func sum(x, y int64) (int64, api.Errno) {
	n := x + y
	// It wrapped round if both have one sign, and the sum has the other one.
	if (x^n)&(y^n) < 0 {
		return 0, api.ErrDatumOver
	}
	return n, api.OK
}

func difference(x, y int64) (int64, api.Errno) {
	n := x - y
	// It wrapped round if the signs differ, and the difference has not that of x.
	if (x^y)&(x^n) < 0 {
		return 0, api.ErrDatumOver
	}
	return n, api.OK
}

func product(x, y int64) (int64, api.Errno) {
	if x == 0 || y == 0 {
		return 0, api.OK
	}
	n := x * y
	// The least number times -1 wraps round to itself, which dividing does not tell.
	if n/y != x || (y == -1 && x == math.MinInt64) {
		return 0, api.ErrDatumOver
	}
	return n, api.OK
}

func quotient(x, y int64) (int64, api.Errno) {
	if y == 0 {
		return 0, api.ErrDatumZero
	}
	if x == math.MinInt64 && y == -1 {
		return 0, api.ErrDatumOver
	}
	return x / y, api.OK
}

func remainder(x, y int64) (int64, api.Errno) {
	if y == 0 {
		return 0, api.ErrDatumZero
	}
	return x % y, api.OK
}
