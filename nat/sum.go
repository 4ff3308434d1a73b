package nat

import "fulcrum/api"

// Add is the sum.
func Add(a, b api.Nat) api.Nat {
	x, y := trim(a), trim(b)
	if len(x) < len(y) {
		x, y = y, x
	}
	out := make(api.Nat, len(x)+1)
	copy(out, x)
	addInto(out, y)
	return trim(out)
}

// Sub is the difference.
func Sub(a, b api.Nat) (api.Nat, api.Errno) {
	if Cmp(a, b) < 0 {
		return nil, api.ErrBelow
	}
	out := Norm(a)
	subFrom(out, trim(b))
	return trim(out), api.OK
}

// addInto adds y to out, which must have room for the sum.
func addInto(out, y api.Nat) {
	carry := uint64(0)
	for i := range len(y) {
		t := uint64(out[i]) + uint64(y[i]) + carry
		out[i] = uint32(t)
		carry = t >> limbBits
	}
	for i := len(y); carry != 0 && i < len(out); i++ {
		t := uint64(out[i]) + carry
		out[i] = uint32(t)
		carry = t >> limbBits
	}
}

// subFrom takes y from out, which must not be below y.
func subFrom(out, y api.Nat) {
	borrow := uint64(0)
	for i := range len(y) {
		t := uint64(out[i]) - uint64(y[i]) - borrow
		out[i] = uint32(t)
		borrow = t >> 63
	}
	for i := len(y); borrow != 0 && i < len(out); i++ {
		t := uint64(out[i]) - borrow
		out[i] = uint32(t)
		borrow = t >> 63
	}
}
