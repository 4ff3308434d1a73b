package approx

import (
	"math"

	"fulcrum/api"
	"fulcrum/ratio"
)

// Valid tells whether a span may be.
func Valid(s api.Span) bool {
	return s.Lo <= s.Hi && !math.IsInf(s.Lo, 1) && !math.IsInf(s.Hi, -1)
}

// Around is the least span that has a number.
func Around(r api.Rat) api.Span {
	return api.Span{Lo: Down(r), Hi: Up(r)}
}

// In tells whether a span has a number.
func In(r api.Rat, s api.Span) bool {
	near := Around(r)
	return Valid(s) && s.Lo <= near.Lo && near.Hi <= s.Hi
}

// Sum is the least span that has all sums.
func Sum(a, b api.Span) (api.Span, api.Errno) {
	if !Valid(a) || !Valid(b) {
		return api.Span{}, api.ErrArg
	}
	return api.Span{Lo: sum(a.Lo, b.Lo).Lo, Hi: sum(a.Hi, b.Hi).Hi}, api.OK
}

// Diff is the least span that has all differences.
func Diff(a, b api.Span) (api.Span, api.Errno) {
	return Sum(a, api.Span{Lo: -b.Hi, Hi: -b.Lo})
}

// Prod is the least span that has all products.
func Prod(a, b api.Span) (api.Span, api.Errno) {
	if !Valid(a) || !Valid(b) {
		return api.Span{}, api.ErrArg
	}
	return ofEnds(product, a, b), api.OK
}

// Quot is the least span that has all quotients.
func Quot(a, b api.Span) (api.Span, api.Errno) {
	switch {
	case !Valid(a) || !Valid(b):
		return api.Span{}, api.ErrArg
	case b.Lo <= 0 && 0 <= b.Hi:
		return api.Span{}, api.ErrZero
	}
	return ofEnds(quotient, a, b), api.OK
}

// ofEnds is what all choices of an end of a and one of b make. The least one is rounded down and the greatest one up by rounding all of them both ways: rounding keeps their order.
func ofEnds(do func(x, y float64) api.Span, a, b api.Span) api.Span {
	out := do(a.Lo, b.Lo)
	for _, s := range []api.Span{do(a.Lo, b.Hi), do(a.Hi, b.Lo), do(a.Hi, b.Hi)} {
		// min and max tell -0 from 0: an end that is 0 counts above one that was rounded to -0.
		out = api.Span{Lo: min(out.Lo, s.Lo), Hi: max(out.Hi, s.Hi)}
	}
	return out
}

// sum, product and quotient are of two ends, rounded both ways. Go's own operations are taken for infinite ends alone, where they are right as they are.

func sum(x, y float64) api.Span {
	if isInfinite(x) || isInfinite(y) {
		return both(x + y)
	}
	return Around(ratio.Add(number(x), number(y)))
}

func product(x, y float64) api.Span {
	switch {
	case x == 0 || y == 0:
		return both(0)
	case isInfinite(x) || isInfinite(y):
		return both(x * y)
	}
	return Around(ratio.Mul(number(x), number(y)))
}

// quotient is by a y that is not 0.
func quotient(x, y float64) api.Span {
	switch {
	case isInfinite(y):
		return both(0)
	case isInfinite(x):
		return both(x / y)
	}
	out, _ := ratio.Div(number(x), number(y))
	return Around(out)
}

func both(f float64) api.Span {
	return api.Span{Lo: f, Hi: f}
}

func isInfinite(f float64) bool {
	return math.IsInf(f, 0)
}
