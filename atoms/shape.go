package atoms

import (
	"slices"

	"fulcrum/api"
	"fulcrum/keys"
	"fulcrum/linear"
	"fulcrum/ratio"
)

// An atom may be in one of three shapes.

func isTrueOne(a api.Atom) bool {
	return a.Name == "" && isBare(a)
}

func isConstant(a api.Atom) bool {
	return a.Name != "" && isBare(a)
}

func (l looker) isInequality(a api.Atom) bool {
	return a.Name == "" && l.isPrime(a.Form) && l.isNormal(a.Bound)
}

// isBare tells whether an atom has nothing but a name.
func isBare(a api.Atom) bool {
	return len(a.Form) == 0 && isNought(a.Bound) && !a.Strict
}

// looker is what was found to be as it must be of long numbers, by keys: many atoms of a table may share a form or a bound that takes long to look at.
type looker map[string]struct{}

// isAsLooked tells what a look tells of an atom that has a form alone or a bound alone; it is looked at till that is once so.
func (l looker) isAsLooked(at api.Atom, look func() bool) bool {
	key := string(keys.WithAtom(nil, at))
	if _, ok := l[key]; ok {
		return true
	}
	if !look() {
		return false
	}
	l[key] = struct{}{}
	return true
}

// isPrime tells whether a form with a part or more is its own shape, written as layer 6 writes it.
func (l looker) isPrime(f api.Form) bool {
	if len(f) == 0 || f[0].Coef.Num.Neg {
		return false
	}
	for i, part := range f {
		if i > 0 && f[i-1].Var >= part.Var || !isTrimmed(part.Coef.Num.Abs) || !isOne(part.Coef.Den) {
			return false
		}
	}
	return l.isCoprime(f)
}

// isCoprime is asked of whole coefficients that are normal. Most are small, and of these a table may have so many that each call would take seconds, if layer 6 were asked every time.
func (l looker) isCoprime(f api.Form) bool {
	common := uint64(0)
	for _, part := range f {
		n, small := word(part.Coef.Num.Abs)
		if !small {
			return l.isAsLooked(api.Atom{Form: f}, func() bool {
				_, times := linear.Prime(f)
				return ratio.Cmp(times, ratio.Whole(1)) == 0
			})
		}
		common = divisor(common, n)
		if common == 1 {
			return true
		}
	}
	return false
}

// isNormal tells whether a number is written as layer 3 writes it.
func (l looker) isNormal(r api.Rat) bool {
	if isNought(r) {
		return true
	}
	return isTrimmed(r.Num.Abs) && isTrimmed(r.Den) && l.isLowest(r)
}

// isLowest is asked of a number whose two parts are normal, and not 0.
func (l looker) isLowest(r api.Rat) bool {
	num, shortNum := word(r.Num.Abs)
	den, shortDen := word(r.Den)
	switch {
	case isOne(r.Den):
		return true
	case shortNum && shortDen:
		return divisor(num, den) == 1
	}
	return l.isAsLooked(api.Atom{Bound: r}, func() bool { return slices.Equal(ratio.Norm(r).Den, r.Den) })
}

// isNought tells whether a number is 0 and normal.
func isNought(r api.Rat) bool {
	return !r.Num.Neg && len(r.Num.Abs) == 0 && isOne(r.Den)
}

func isOne(n api.Nat) bool {
	return len(n) == 1 && n[0] == 1
}

// isTrimmed tells whether a number is normal and not 0.
func isTrimmed(n api.Nat) bool {
	return len(n) > 0 && n[len(n)-1] != 0
}

// word is a number that is normal and not 0 as one word, if it is that small.
func word(n api.Nat) (uint64, bool) {
	const limbBits = 32
	switch len(n) {
	case 1:
		return uint64(n[0]), true
	case 2:
		return uint64(n[1])<<limbBits | uint64(n[0]), true
	}
	return 0, false
}

// divisor is the greatest common divisor.
func divisor(a, b uint64) uint64 {
	for b != 0 {
		a, b = b, a%b
	}
	return a
}
