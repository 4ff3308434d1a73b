package whole

import (
	"fulcrum/api"
	"fulcrum/nat"
)

const limbBits = 32

// Shift is it times 2 to the n, down.
func Shift(a api.Int, n int) (api.Int, api.Errno) {
	abs, e := nat.Shift(a.Abs, n)
	if e != api.OK {
		return api.Int{}, e
	}
	if a.Neg && n < 0 && anyBelow(a.Abs, -n) { // below 0, down is away from 0
		abs = nat.Add(abs, nat.Of(1))
	}
	return signed(abs, side(a)), api.OK
}

// anyBelow: whether one of a's lowest n bits is 1.
func anyBelow(a api.Nat, n int) bool {
	whole := min(n/limbBits, len(a))
	if nat.Bits(a[:whole:whole]) > 0 {
		return true
	}
	rest := a[whole:len(a):len(a)]
	return len(rest) > 0 && rest[0]<<(limbBits-n%limbBits) != 0
}

// Pow is a power.
func Pow(a api.Int, n int) (api.Int, api.Errno) {
	abs, e := nat.Pow(a.Abs, n)
	if e != api.OK {
		return api.Int{}, e
	}
	if n%2 == 0 {
		return signed(abs), api.OK
	}
	return signed(abs, side(a)), api.OK
}

// Root is the square root, down.
func Root(a api.Int) (api.Int, api.Errno) {
	if Sign(a) < 0 {
		return api.Int{}, api.ErrBelow
	}
	return signed(nat.Root(a.Abs)), api.OK
}
