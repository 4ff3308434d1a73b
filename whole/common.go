package whole

import (
	"fulcrum/api"
	"fulcrum/nat"
)

// Gcd is the greatest number that divides both.
func Gcd(a, b api.Int) api.Nat {
	return nat.Gcd(a.Abs, b.Abs)
}

// Lcm is the least one above 0 that both divide.
func Lcm(a, b api.Int) api.Nat {
	q, _, e := nat.Div(a.Abs, Gcd(a, b))
	if e != api.OK { // both are 0
		return nil
	}
	return nat.Mul(q, b.Abs)
}

// Bezout is the Gcd, and how often both are taken to make it.
func Bezout(a, b api.Int) (api.Nat, api.Int, api.Int) {
	if Sign(b) == 0 {
		return Abs(a), Of(int64(Sign(a))), api.Int{}
	}
	g, x := leastTimes(a, b)
	y, _, _ := Quo(Sub(api.Int{Abs: g}, Mul(a, x)), b)
	return g, x, y
}

// Inverse is what a must be taken times to leave 1 modulo m.
func Inverse(a, m api.Int) (api.Int, api.Errno) {
	if Sign(m) == 0 {
		return api.Int{}, api.ErrInverse
	}
	g, x := leastTimes(a, m)
	if n, ok := nat.Small(g); !ok || n != 1 {
		return api.Int{}, api.ErrInverse
	}
	return x, api.OK
}

// leastTimes is the Gcd of a and m, which is not 0, and the least number from 0 on that a must be taken times to leave the Gcd modulo m.
func leastTimes(a, m api.Int) (api.Nat, api.Int) {
	_, left, _ := Euclid(a, m)
	g, none := lowered(row{signed(Abs(m)), Of(0)}, row{left, Of(1)}, 0)
	_, x, _ := Euclid(g[1], none[1]) // a is 0 modulo m just at the multiples of this one
	return g[0].Abs, x
}
