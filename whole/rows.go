package whole

import "fulcrum/api"

// shortPiece is the number of limbs of which Euclid's steps are taken one by one: of so few they cost less than what leads to fewer.
const shortPiece = 8

// row is a number from 0 on, and behind it how often numbers that stand at the beginning are taken to make it.
//
// Two rows are changed only so that they can be changed back, by steps and by leaps, so both numbers keep their Gcd whatever is done, and what stands behind them stays right.
type row []api.Int

// lowered goes down from two rows, the greater first, to such ones of which the second number has at most so many limbs.
func lowered(great, less row, limbs int) (row, row) {
	for len(less[0].Abs) > limbs {
		great, less = step(great, less)
		great, less = leap(great, less, limbs)
	}
	return great, less
}

// step is one of Euclid's.
func step(great, less row) (row, row) {
	q, left, _ := Quo(great[0], less[0])
	out := row{left}
	for i := 1; i < len(great); i++ {
		out = append(out, Sub(great[i], Mul(q, less[i])))
	}
	return less, out
}

// leap is the many steps that the highest limbs of both numbers tell: half as many limbs are lost as are looked at. The last of these steps may be wrong for the whole numbers, which is no harm, unless they don't get smaller.
func leap(great, less row, limbs int) (row, row) {
	n := len(great[0].Abs)
	high := min(n/2, 2*(n-limbs))
	if high < shortPiece {
		return great, less
	}
	x, y := row{above(great[0], n-high), Of(1), Of(0)}, row{above(less[0], n-high), Of(0), Of(1)}
	x, y = lowered(x, y, high/2)
	x, y = mixed(great, x[1], less, x[2]), mixed(great, y[1], less, y[2])
	if Cmp(x[0], y[0]) < 0 {
		x, y = y, x
	}
	if Cmp(x[0], great[0]) >= 0 {
		return great, less
	}
	return x, y
}

// above is a without its lowest k limbs.
func above(a api.Int, k int) api.Int {
	n := len(a.Abs)
	return api.Int{Abs: a.Abs[min(k, n):n:n]}
}

// mixed is the row of one m times and the other n times, or what is as far on the other side of 0.
func mixed(one row, m api.Int, other row, n api.Int) row {
	out := make(row, len(one))
	for i := range out {
		out[i] = Add(Mul(one[i], m), Mul(other[i], n))
	}
	if out[0].Neg {
		for i := range out {
			out[i] = Neg(out[i])
		}
	}
	return out
}
