package terms

import (
	"slices"

	"fulcrum/api"
	"fulcrum/ratio"
)

// facts is all that a word asks of its kids: their sorts, and which numbers they are.
type facts interface {
	sort(v int) int
	number(v int) (api.Rat, bool)
}

// outcome is what a word says of kids, as far as facts tell it: that number, or what is none. Of a kid that is scaled number is the factor.
type outcome struct {
	sort     int
	isNumber bool
	number   api.Rat
}

// judge is what a word says of kids, or the first thing that is wrong with them.
func judge(f facts, w word, kids []int) (outcome, api.Errno) {
	use := usages[w]
	switch {
	case len(kids) < use.least || len(kids) > use.most:
		return outcome{}, api.ErrArity
	case !sortsFit(use.kind, kids, f.sort):
		return outcome{}, api.ErrSort
	}
	switch w {
	case wordPlus:
		return inTurn(f, kids, ratio.Add)
	case wordMinus:
		return difference(f, kids)
	case wordTimes:
		return product(f, kids)
	case wordOver:
		return quotient(f, kids)
	}
	return outcome{sort: sortBy(use.kind, kids, f.sort)}, api.OK
}

// numbersOf is the numbers among kids, and how many kids are none.
func numbersOf(f facts, kids []int) ([]api.Rat, int) {
	var out []api.Rat
	for _, kid := range kids {
		if r, ok := f.number(kid); ok {
			out = append(out, r)
		}
	}
	return out, len(kids) - len(out)
}

// inTurn is the sum or the difference of kids, if all are numbers.
func inTurn(f facts, kids []int, by func(a, b api.Rat) api.Rat) (outcome, api.Errno) {
	numbers, others := numbersOf(f, kids)
	if others > 0 {
		return outcome{sort: api.SortReal}, api.OK
	}
	return toNumber(reckon(numbers[0], numbers[1:], by))
}

func difference(f facts, kids []int) (outcome, api.Errno) {
	if r, ok := f.number(kids[0]); ok && len(kids) == 1 {
		return toNumber(ratio.Neg(r), api.OK) // however long it is
	}
	return inTurn(f, kids, ratio.Sub)
}

func product(f facts, kids []int) (outcome, api.Errno) {
	numbers, others := numbersOf(f, kids)
	if others > 1 {
		return outcome{}, api.ErrLinear
	}
	r, e := reckon(ratio.Whole(1), numbers, ratio.Mul)
	if others == 1 {
		return toFactor(r, e)
	}
	return toNumber(r, e)
}

func quotient(f facts, kids []int) (outcome, api.Errno) {
	divisors, others := numbersOf(f, kids[1:])
	if others > 0 || slices.ContainsFunc(divisors, isZero) {
		return outcome{}, api.ErrDivide
	}
	part, e := reckon(ratio.Whole(1), divisors, divided)
	whole, ok := f.number(kids[0])
	if e != api.OK || !ok {
		return toFactor(part, e)
	}
	return toNumber(reckon(part, []api.Rat{whole}, ratio.Mul))
}

func isZero(r api.Rat) bool {
	return ratio.Sign(r) == 0
}

// divided is a divided by b, which is not 0.
func divided(a, b api.Rat) api.Rat {
	r, _ := ratio.Div(a, b)
	return r
}

// reckon is what a number becomes by each of l in turn; ErrLong, if it is too long at the beginning or anywhere on the way.
func reckon(r api.Rat, l []api.Rat, by func(a, b api.Rat) api.Rat) (api.Rat, api.Errno) {
	for _, next := range l {
		if isLong(r) {
			break
		}
		r = by(r, next)
	}
	if isLong(r) {
		return api.Rat{}, api.ErrLong
	}
	return r, api.OK
}

func isLong(r api.Rat) bool {
	return limbs(r) > api.MaxLimbs
}

func toNumber(r api.Rat, e api.Errno) (outcome, api.Errno) {
	return outcome{sort: api.SortReal, isNumber: true, number: r}, e
}

func toFactor(r api.Rat, e api.Errno) (outcome, api.Errno) {
	return outcome{sort: api.SortReal, number: r}, e
}
