package nat

import (
	"math/bits"

	"fulcrum/api"
)

// Shift is it times 2 to the n, rounded down.
func Shift(a api.Nat, n int) (api.Nat, api.Errno) {
	if n < -api.MaxShift || n > api.MaxShift {
		return nil, api.ErrShift
	}
	if n < 0 {
		return lowered(trim(a), -n), api.OK
	}
	return raised(trim(a), n), api.OK
}

// Pow is its n-th power.
func Pow(a api.Nat, n int) (api.Nat, api.Errno) {
	if n < 0 || n > api.MaxPow {
		return nil, api.ErrPower
	}
	out := Of(1)
	for i := bits.Len(uint(n)) - 1; i >= 0; i-- {
		out = Mul(out, out)
		if n>>i&1 == 1 {
			out = Mul(out, a)
		}
	}
	return out, api.OK
}

// Root is its square root, rounded down.
func Root(a api.Nat) api.Nat {
	x := trim(a)
	if Bits(x) <= 1 {
		return Norm(x)
	}
	r := aboveRoot(x)
	for {
		q, _, _ := Div(x, r)
		next := lowered(Add(r, q), 1)
		if Cmp(next, r) >= 0 {
			return r
		}
		r = next
	}
}

// aboveRoot is a number above x's root, as near to it as half of its digits tell: from there Newton's way falls in a step or two.
func aboveRoot(x api.Nat) api.Nat {
	k := max(Bits(x)/4, 1)
	high := Root(lowered(x, 2*k))
	return raised(Add(high, Of(1)), k)
}

// raised is x, which is trimmed, times 2^n, for n from 0 on.
func raised(x api.Nat, n int) api.Nat {
	if len(x) == 0 {
		return nil
	}
	whole, part := n/limbBits, n%limbBits
	out := make(api.Nat, whole+len(x)+1)
	out[whole+len(x)] = shiftUp(out[whole:whole+len(x)], x, part)
	return trim(out)
}

// lowered is x, which is trimmed, divided by 2^n, for n from 0 on, rounded down.
func lowered(x api.Nat, n int) api.Nat {
	whole, part := n/limbBits, n%limbBits
	if whole >= len(x) {
		return nil
	}
	out := make(api.Nat, len(x)-whole)
	shiftDown(out, x[whole:], part)
	return trim(out)
}
