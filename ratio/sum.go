package ratio

import (
	"fulcrum/api"
	"fulcrum/whole"
)

// Add is the sum.
func Add(a, b api.Rat) api.Rat {
	return sum(read(a), read(b))
}

// Sub is the difference.
func Sub(a, b api.Rat) api.Rat {
	return sum(read(a), opposite(read(b)))
}

// Mul is the product.
func Mul(a, b api.Rat) api.Rat {
	x, y := read(a), read(b)
	return lowest(fraction{whole.Mul(x.num, y.num), whole.Mul(x.den, y.den)})
}

// Inv is 1 divided by it.
func Inv(r api.Rat) (api.Rat, api.Errno) {
	f := read(r)
	return Of(f.den, f.num)
}

// Div is the quotient.
func Div(a, b api.Rat) (api.Rat, api.Errno) {
	x, y := read(a), read(b)
	return Of(whole.Mul(x.num, y.den), whole.Mul(x.den, y.num))
}

// Floor is the greatest whole number that is not above it.
func Floor(r api.Rat) api.Int {
	return floor(read(r))
}

// Ceil is the least whole number that is not below it.
func Ceil(r api.Rat) api.Int {
	return whole.Neg(floor(opposite(read(r))))
}

func sum(x, y fraction) api.Rat {
	num := whole.Add(whole.Mul(x.num, y.den), whole.Mul(y.num, x.den))
	return lowest(fraction{num, whole.Mul(x.den, y.den)})
}

func floor(f fraction) api.Int {
	down, _, _ := whole.Floor(f.num, f.den)
	return down
}
