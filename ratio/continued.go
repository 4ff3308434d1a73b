package ratio

import (
	"iter"
	"slices"

	"fulcrum/api"
	"fulcrum/whole"
)

// Expand is its continued fraction.
func Expand(r api.Rat) []api.Int {
	return slices.Collect(numbers(read(r)))
}

// Fold is the number of a continued fraction.
func Fold(l []api.Int) (api.Rat, api.Errno) {
	if len(l) == 0 {
		return api.Rat{}, api.ErrArg
	}
	for _, n := range l[1:] {
		if whole.Sign(n) < 1 {
			return api.Rat{}, api.ErrArg
		}
	}
	return value(slices.Values(l)), api.OK
}

// numbers goes through the continued fraction of f, whose den is above 0.
func numbers(f fraction) iter.Seq[api.Int] {
	return func(yield func(api.Int) bool) {
		rest := f // so that it can be gone through again
		for {
			down, left, _ := whole.Floor(rest.num, rest.den)
			if !yield(down) || whole.Sign(left) == 0 {
				return
			}
			rest = fraction{rest.den, left}
		}
	}
}

// value is the number of a continued fraction whose numbers, but the first, are above 0.
func value(numbers iter.Seq[api.Int]) api.Rat {
	c := beginning()
	for n := range numbers {
		c = c.longer(n)
	}
	return c.now.rat()
}

// convergents is what a continued fraction makes up to some number, and up to the one ahead of it.
type convergents struct{ was, now fraction }

// beginning is what no numbers make.
func beginning() convergents {
	return convergents{
		was: fraction{whole.Of(0), whole.Of(1)},
		now: fraction{whole.Of(1), whole.Of(0)},
	}
}

// longer is what comes of them with one number more.
func (c convergents) longer(n api.Int) convergents {
	return convergents{c.now, c.mixed(n)}
}

// mixed is now so many times, and was.
func (c convergents) mixed(n api.Int) fraction {
	return fraction{
		num: whole.Add(whole.Mul(c.now.num, n), c.was.num),
		den: whole.Add(whole.Mul(c.now.den, n), c.was.den),
	}
}

// rat is a convergent as a number. It is in lowest terms as it is: what divides both its parts divides 1, the difference of its and its neighbour's products crosswise.
func (f fraction) rat() api.Rat {
	return api.Rat{Num: f.num, Den: f.den.Abs}
}
