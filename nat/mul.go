package nat

import "fulcrum/api"

// From so many limbs on three products of halves cost less than one of the whole.
const karatsubaFrom = 64

// Mul is the product.
func Mul(a, b api.Nat) api.Nat {
	x, y := trim(a), trim(b)
	if len(x) == 0 || len(y) == 0 {
		return nil
	}
	return trim(product(x, y))
}

// product has as many limbs as both together, noughts at its end too.
func product(x, y api.Nat) api.Nat {
	out := make(api.Nat, len(x)+len(y))
	mulInto(out, x, y)
	return out
}

// mulInto makes out, which is all noughts and has as many limbs as both together, the product.
func mulInto(out, x, y api.Nat) {
	if len(x) < len(y) {
		x, y = y, x
	}
	half := (len(x) + 1) / 2
	switch {
	case len(y) < karatsubaFrom:
		mulByLimbs(out, x, y)
	case len(y) <= half:
		mulInto(out[:half+len(y)], x[:half], y)
		addInto(out[half:], product(x[half:], y))
	default:
		mulByHalves(out, x, y, half)
	}
}

func mulByLimbs(out, x, y api.Nat) {
	for i := range len(y) {
		out[i+len(x)] = addTimes(out[i:i+len(x)], x, y[i])
	}
}

// addTimes adds m times x to out, and answers the limb that has no room there.
func addTimes(out, x api.Nat, m uint32) uint32 {
	carry := uint64(0)
	for i := range len(x) {
		t := uint64(x[i])*uint64(m) + uint64(out[i]) + carry
		out[i] = uint32(t)
		carry = t >> limbBits
	}
	return uint32(carry)
}

// mulByHalves is Karatsuba's way: what stands in the middle is the product of the halves' sums, less the two outer products.
func mulByHalves(out, x, y api.Nat, half int) {
	mulInto(out[:2*half], x[:half], y[:half])
	mulInto(out[2*half:], x[half:], y[half:])
	middle := product(halvesSum(x, half), halvesSum(y, half))
	subFrom(middle, out[:2*half])
	subFrom(middle, out[2*half:])
	addInto(out[half:], trim(middle))
}

func halvesSum(x api.Nat, half int) api.Nat {
	out := make(api.Nat, half+1)
	copy(out, x[:half])
	addInto(out, x[half:])
	return out
}
