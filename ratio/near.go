package ratio

import (
	"cmp"
	"iter"

	"fulcrum/api"
	"fulcrum/nat"
	"fulcrum/whole"
)

// Simplest is the simplest number between two.
func Simplest(lo, hi api.Rat) (api.Rat, api.Errno) {
	a, b := read(lo), read(hi)
	switch {
	case order(a, b) >= 0:
		return api.Rat{}, api.ErrOrder
	case whole.Sign(a.num) >= 0:
		return value(between(a, b)), api.OK
	case whole.Sign(b.num) > 0:
		return Whole(0), api.OK
	}
	return Neg(value(between(opposite(b), opposite(a)))), api.OK
}

// between goes through the continued fraction of the simplest number above lo and below hi, lo from 0 on.
//
// If no whole number lies between, all numbers there have the same Floor; and of what they are above it the simplest is 1 divided by the simplest number between what both ends make so. hi may stand above all numbers.
func between(lo, hi fraction) iter.Seq[api.Int] {
	return func(yield func(api.Int) bool) {
		lo, hi := lo, hi // so that it can be gone through again
		for {
			down, left, _ := whole.Floor(lo.num, lo.den)
			next := whole.Add(down, whole.Of(1))
			if order(fraction{next, whole.Of(1)}, hi) < 0 {
				yield(next)
				return
			}
			if !yield(down) {
				return
			}
			above := whole.Sub(hi.num, whole.Mul(down, hi.den))
			lo, hi = fraction{hi.den, above}, fraction{lo.den, left}
		}
	}
}

// Best is the nearest number whose denominator is at most one.
func Best(r api.Rat, most api.Nat) (api.Rat, api.Errno) {
	if nat.Bits(most) == 0 {
		return api.Rat{}, api.ErrZero
	}
	limit := api.Int{Abs: most}
	c := beginning()
	for n := range numbers(read(r)) {
		next := c.longer(n)
		if whole.Cmp(next.now.den, limit) > 0 {
			return nearer(r, c.now.rat(), c.upTo(limit).rat()), api.OK
		}
		c = next
	}
	return c.now.rat(), api.OK
}

// upTo is the farthest way from was to what the next number makes whose den is at most limit. It lies on the other side of the number that is gone through than now does, and between both there is none whose den is at most limit.
func (c convergents) upTo(limit api.Int) fraction {
	times, _, _ := whole.Floor(whole.Sub(limit, c.was.den), c.now.den)
	return c.mixed(times)
}

// nearer is that one of a and b that is nearer to r; of two as near that with the less Den, and of two such the lower one.
func nearer(r, a, b api.Rat) api.Rat {
	if cmp.Or(Cmp(Abs(Sub(a, r)), Abs(Sub(b, r))), nat.Cmp(a.Den, b.Den), Cmp(a, b)) < 0 {
		return a
	}
	return b
}
