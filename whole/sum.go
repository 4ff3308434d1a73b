package whole

import (
	"fulcrum/api"
	"fulcrum/nat"
)

// Add is the sum.
func Add(a, b api.Int) api.Int {
	return sum(a, side(a), b, side(b))
}

// Sub is the difference.
func Sub(a, b api.Int) api.Int {
	return sum(a, side(a), b, -side(b))
}

// Mul is the product.
func Mul(a, b api.Int) api.Int {
	return signed(nat.Mul(a.Abs, b.Abs), side(a), side(b))
}

// sum takes a and b with other signs than their own, so that a difference needs no copy of b.
func sum(a api.Int, signA int, b api.Int, signB int) api.Int {
	if signA == signB {
		return signed(nat.Add(a.Abs, b.Abs), signA)
	}
	if left, e := nat.Sub(a.Abs, b.Abs); e == api.OK {
		return signed(left, signA)
	}
	left, _ := nat.Sub(b.Abs, a.Abs)
	return signed(left, signB)
}
