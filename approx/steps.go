package approx

import (
	"math"

	"fulcrum/api"
	"fulcrum/ratio"
)

// Next is the least float above one.
func Next(f float64) (float64, api.Errno) {
	bits := math.Float64bits(f)
	switch {
	case math.IsNaN(f):
		return 0, api.ErrNaN
	case math.IsInf(f, 1):
		return 0, api.ErrInf
	case f == 0:
		bits = 1 // whatever the sign of 0
	case f > 0:
		bits++
	default:
		bits--
	}
	return math.Float64frombits(bits), api.OK
}

// Prev is the greatest float below one.
func Prev(f float64) (float64, api.Errno) {
	above, e := Next(-f)
	if e != api.OK {
		return 0, e
	}
	return -above, api.OK
}

// Mid is the float that is nearest to the middle of two.
func Mid(a, b float64) (float64, api.Errno) {
	switch {
	case math.IsNaN(a) || math.IsNaN(b):
		return 0, api.ErrNaN
	case isInfinite(a) || isInfinite(b):
		return 0, api.ErrInf
	}
	mid := ratio.Add(number(a), number(b))
	mid.Den = higher(mid.Den, 1)
	return Nearest(mid), api.OK
}
