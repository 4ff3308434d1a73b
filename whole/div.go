package whole

import (
	"fulcrum/api"
	"fulcrum/nat"
)

// Quo divides towards 0: what comes of it, and what is left.
func Quo(a, b api.Int) (api.Int, api.Int, api.Errno) {
	q, r, e := nat.Div(a.Abs, b.Abs)
	if e != api.OK {
		return api.Int{}, api.Int{}, e
	}
	return signed(q, side(a), side(b)), signed(r, side(a)), api.OK
}

// Floor divides down.
func Floor(a, b api.Int) (api.Int, api.Int, api.Errno) {
	q, r, e := Quo(a, b)
	if Sign(r)*side(b) < 0 {
		q, r = Sub(q, Of(1)), Add(r, b)
	}
	return q, r, e
}

// Euclid divides so that what is left is never below 0.
func Euclid(a, b api.Int) (api.Int, api.Int, api.Errno) {
	q, r, e := Floor(a, b)
	if r.Neg { // only where b is below 0
		q, r = Add(q, Of(1)), Sub(r, b)
	}
	return q, r, e
}
