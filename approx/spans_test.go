package approx_test

import (
	"math"
	"math/big"
	"testing"

	"fulcrum/api"
	"fulcrum/approx"
)

type pairOp func(a, b api.Span) (api.Span, api.Errno)

// wrongSpans may not be.
func wrongSpans() []api.Span {
	out := []api.Span{{Lo: infinite, Hi: infinite}, {Lo: -infinite, Hi: -infinite}, {Lo: infinite, Hi: -infinite}, {Lo: 2, Hi: 1}, {Lo: 0, Hi: -least}, {Lo: least, Hi: minusZero}, {Lo: infinite, Hi: 0}, {Lo: 0, Hi: -infinite}, {Lo: after(1), Hi: 1}}
	for _, nan := range notNumbers() {
		out = append(out, api.Span{Lo: nan, Hi: 1}, api.Span{Lo: 1, Hi: nan}, api.Span{Lo: nan, Hi: nan}, api.Span{Lo: -infinite, Hi: nan})
	}
	return out
}

// spans has spans with infinite ends, with 0 and -0 at an end and within, of one number alone, and with ends that make what is beyond the floats.
func spans() []api.Span {
	ends := []float64{-infinite, -greatest, -3, -0.1, -least, minusZero, 0, least, 0.3, 7, greatest, infinite}
	var out []api.Span
	for i, lo := range ends {
		for _, hi := range ends[max(i-1, 0):] {
			if s := (api.Span{Lo: lo, Hi: hi}); lo <= hi && lo != infinite && hi != -infinite {
				out = append(out, s)
			}
		}
	}
	return out
}

func eachTwoSpans(do func(a, b api.Span)) {
	for _, a := range spans() {
		for _, b := range spans() {
			do(a, b)
		}
	}
}

// end is an end of a span, or what two of them make: a number, or infinite on that side.
type end struct {
	side   int
	number *big.Rat
}

func endOf(f float64) end {
	switch f {
	case infinite:
		return end{1, nil}
	case -infinite:
		return end{-1, nil}
	}
	return end{0, exact(f)}
}

// sign is that of the number, or of the side.
func (e end) sign() int {
	if e.side != 0 {
		return e.side
	}
	return e.number.Sign()
}

func (e end) cmp(other end) int {
	if e.side != 0 || other.side != 0 {
		return e.side - other.side
	}
	return e.number.Cmp(other.number)
}

// rounded is P4.7's answer: down or up, an infinite end as it is.
func (e end) rounded(up bool) float64 {
	if e.side != 0 {
		return math.Inf(e.side)
	}
	down, above := place(e.number)
	if up {
		return above
	}
	return down
}

func sumOfEnds(a, b end) end {
	if a.side != 0 || b.side != 0 {
		return end{max(-1, min(1, a.side+b.side)), nil}
	}
	return end{0, sum(a.number, b.number)}
}

func productOfEnds(a, b end) end {
	switch {
	case a.sign() == 0 || b.sign() == 0:
		return end{0, new(big.Rat)}
	case a.side != 0 || b.side != 0:
		return end{a.sign() * b.sign(), nil}
	}
	return end{0, product(a.number, b.number)}
}

func quotientOfEnds(a, b end) end {
	if b.side != 0 {
		return end{0, new(big.Rat)}
	}
	return productOfEnds(a, end{0, new(big.Rat).Inv(b.number)})
}

// fourEnds is the least and the greatest of what an end of a and an end of b make.
func fourEnds(do func(a, b end) end, a, b api.Span) (lo, hi end) {
	for i, x := range []float64{a.Lo, a.Hi} {
		for j, y := range []float64{b.Lo, b.Hi} {
			z := do(endOf(x), endOf(y))
			if i+j == 0 || z.cmp(lo) < 0 {
				lo = z
			}
			if i+j == 0 || z.cmp(hi) > 0 {
				hi = z
			}
		}
	}
	return lo, hi
}

func TestP4_6Valid(t *testing.T) {
	for _, s := range spans() {
		if !approx.Valid(s) {
			t.Errorf("%v is valid", s)
		}
	}
	for _, s := range wrongSpans() {
		if approx.Valid(s) {
			t.Errorf("%v is not valid", s)
		}
	}
}

func TestP4_6Around(t *testing.T) {
	eachNumber(func(r *big.Rat) {
		down, up := place(r)
		wantSpan(t, "Around of "+r.String(), approx.Around(of(r)), api.OK, api.Span{Lo: down, Hi: up}, api.OK)
	})
	wantSpan(t, "Around of 0", approx.Around(api.Rat{}), api.OK, api.Span{}, api.OK)
	tiny := two(-2000)
	wantSpan(t, "a tiny one", approx.Around(of(tiny)), api.OK, api.Span{Lo: 0, Hi: least}, api.OK)
	wantSpan(t, "a tiny one below 0", approx.Around(of(opposite(tiny))), api.OK, api.Span{Lo: -least, Hi: minusZero}, api.OK)
	wantSpan(t, "a huge one", approx.Around(of(two(2000))), api.OK, api.Span{Lo: greatest, Hi: infinite}, api.OK)
}

func TestP4_6In(t *testing.T) {
	numbers := []*big.Rat{new(big.Rat), num("1/3"), num("-1/3"), two(2000), opposite(two(2000)), two(-2000), opposite(two(-2000)), overflow()}
	for _, f := range []float64{3, 0.1, least, 0.3, 7, greatest} {
		for _, x := range []*big.Rat{exact(f), opposite(exact(f))} {
			numbers = append(numbers, x, sum(x, two(-1200)), sum(x, opposite(two(-1200))))
		}
	}
	for _, r := range numbers {
		x := end{0, r}
		for _, s := range spans() {
			want := endOf(s.Lo).cmp(x) <= 0 && x.cmp(endOf(s.Hi)) <= 0
			if approx.In(of(r), s) != want {
				t.Fatalf("In(%v, %v) is not %v", r, s, want)
			}
		}
		for _, s := range wrongSpans() {
			if approx.In(of(r), s) {
				t.Fatalf("In(%v, %v)", r, s)
			}
		}
	}
}

func TestP4_7SumAndDiff(t *testing.T) {
	eachTwoSpans(func(a, b api.Span) {
		s, e := approx.Sum(a, b)
		lo, hi := sumOfEnds(endOf(a.Lo), endOf(b.Lo)), sumOfEnds(endOf(a.Hi), endOf(b.Hi))
		wantSpan(t, "Sum", s, e, api.Span{Lo: lo.rounded(false), Hi: hi.rounded(true)}, api.OK)
		s, e = approx.Diff(a, b)
		lo, hi = sumOfEnds(endOf(a.Lo), endOf(-b.Hi)), sumOfEnds(endOf(a.Hi), endOf(-b.Lo))
		wantSpan(t, "Diff", s, e, api.Span{Lo: lo.rounded(false), Hi: hi.rounded(true)}, api.OK)
	})
}

func TestP4_7Prod(t *testing.T) {
	eachTwoSpans(func(a, b api.Span) {
		s, e := approx.Prod(a, b)
		lo, hi := fourEnds(productOfEnds, a, b)
		wantSpan(t, "Prod", s, e, api.Span{Lo: lo.rounded(false), Hi: hi.rounded(true)}, api.OK)
	})
}

func TestP4_8Quot(t *testing.T) {
	eachTwoSpans(func(a, b api.Span) {
		s, e := approx.Quot(a, b)
		if b.Lo <= 0 && b.Hi >= 0 {
			wantSpan(t, "Quot by what has 0", s, e, api.Span{}, api.ErrZero)
			return
		}
		lo, hi := fourEnds(quotientOfEnds, a, b)
		wantSpan(t, "Quot", s, e, api.Span{Lo: lo.rounded(false), Hi: hi.rounded(true)}, api.OK)
	})
}

func TestP4_7AtItsEdges(t *testing.T) {
	inf := infinite
	for _, c := range []struct {
		name       string
		do         pairOp
		a, b, want api.Span
	}{
		{"Sum", approx.Sum, api.Span{Lo: 0.1, Hi: 0.1}, api.Span{Lo: 0.2, Hi: 0.2}, api.Span{Lo: 0.3, Hi: 0.30000000000000004}},
		{"Sum of zeros", approx.Sum, api.Span{Lo: minusZero, Hi: minusZero}, api.Span{Lo: minusZero, Hi: minusZero}, api.Span{}},
		{"Sum beyond", approx.Sum, api.Span{Lo: greatest, Hi: greatest}, api.Span{Lo: least, Hi: least}, api.Span{Lo: greatest, Hi: inf}},
		{"Sum far beyond", approx.Sum, api.Span{Lo: -greatest, Hi: greatest}, api.Span{Lo: -greatest, Hi: greatest}, api.Span{Lo: -inf, Hi: inf}},
		{"Sum beyond, one side", approx.Sum, api.Span{Lo: greatest, Hi: inf}, api.Span{Lo: greatest, Hi: greatest}, api.Span{Lo: greatest, Hi: inf}},
		{"Sum of all", approx.Sum, api.Span{Lo: -inf, Hi: inf}, api.Span{Lo: -inf, Hi: inf}, api.Span{Lo: -inf, Hi: inf}},
		{"Diff of all", approx.Diff, api.Span{Lo: -inf, Hi: inf}, api.Span{Lo: -inf, Hi: inf}, api.Span{Lo: -inf, Hi: inf}},
		{"Diff", approx.Diff, api.Span{Lo: 0, Hi: 1}, api.Span{Lo: 0, Hi: inf}, api.Span{Lo: -inf, Hi: 1}},
		{"Diff of one", approx.Diff, api.Span{Lo: 1, Hi: 1}, api.Span{Lo: 1, Hi: 1}, api.Span{}},
		{"Prod of tiny ones", approx.Prod, api.Span{Lo: least, Hi: least}, api.Span{Lo: least, Hi: least}, api.Span{Lo: 0, Hi: least}},
		{"Prod of tiny ones below 0", approx.Prod, api.Span{Lo: -least, Hi: -least}, api.Span{Lo: least, Hi: least}, api.Span{Lo: -least, Hi: minusZero}},
		{"Prod up to 0", approx.Prod, api.Span{Lo: -least, Hi: 0}, api.Span{Lo: least, Hi: least}, api.Span{Lo: -least, Hi: 0}},
		{"Prod up to -0", approx.Prod, api.Span{Lo: -least, Hi: minusZero}, api.Span{Lo: least, Hi: least}, api.Span{Lo: -least, Hi: 0}},
		{"Prod of -0 and all", approx.Prod, api.Span{Lo: minusZero, Hi: minusZero}, api.Span{Lo: -inf, Hi: inf}, api.Span{}},
		{"Prod of 0 and beyond", approx.Prod, api.Span{Lo: -inf, Hi: inf}, api.Span{Lo: 0, Hi: 0}, api.Span{}},
		{"Prod from 0 on", approx.Prod, api.Span{Lo: 0, Hi: inf}, api.Span{Lo: 0, Hi: inf}, api.Span{Lo: 0, Hi: inf}},
		{"Prod below 0", approx.Prod, api.Span{Lo: -inf, Hi: -2}, api.Span{Lo: -inf, Hi: -3}, api.Span{Lo: 6, Hi: inf}},
		{"Prod beyond", approx.Prod, api.Span{Lo: greatest, Hi: greatest}, api.Span{Lo: -2, Hi: 2}, api.Span{Lo: -inf, Hi: inf}},
		{"Quot by an infinite end", approx.Quot, api.Span{Lo: -1, Hi: -1}, api.Span{Lo: 1, Hi: inf}, api.Span{Lo: -1, Hi: 0}},
		{"Quot of infinite ends", approx.Quot, api.Span{Lo: -inf, Hi: inf}, api.Span{Lo: -inf, Hi: -1}, api.Span{Lo: -inf, Hi: inf}},
		{"Quot of 0", approx.Quot, api.Span{Lo: minusZero, Hi: 0}, api.Span{Lo: -inf, Hi: -least}, api.Span{}},
		{"Quot beyond", approx.Quot, api.Span{Lo: -1, Hi: 1}, api.Span{Lo: least, Hi: least}, api.Span{Lo: -inf, Hi: inf}},
		{"Quot of tiny ones", approx.Quot, api.Span{Lo: -least, Hi: -least}, api.Span{Lo: 3, Hi: 4}, api.Span{Lo: -least, Hi: minusZero}},
		{"Quot", approx.Quot, api.Span{Lo: 1, Hi: 1}, api.Span{Lo: 3, Hi: 3}, api.Span{Lo: 0.3333333333333333, Hi: 0.33333333333333337}},
	} {
		s, e := c.do(c.a, c.b)
		wantSpan(t, c.name, s, e, c.want, api.OK)
	}
}

func TestP4_7SpansThatMayNotBe(t *testing.T) {
	all := map[string]pairOp{"Sum": approx.Sum, "Diff": approx.Diff, "Prod": approx.Prod, "Quot": approx.Quot}
	for name, do := range all {
		for _, wrong := range wrongSpans() {
			for _, other := range append(wrongSpans(), api.Span{}, api.Span{Lo: -1, Hi: 1}, api.Span{Lo: 1, Hi: infinite}) {
				s, e := do(wrong, other)
				wantSpan(t, name, s, e, api.Span{}, api.ErrArg)
				s, e = do(other, wrong)
				wantSpan(t, name, s, e, api.Span{}, api.ErrArg)
			}
		}
	}
}

func TestP4_8QuotByWhatHasZero(t *testing.T) {
	for _, b := range []api.Span{{}, {Lo: minusZero, Hi: minusZero}, {Lo: 0, Hi: minusZero}, {Lo: 0, Hi: 1}, {Lo: -1, Hi: 0}, {Lo: -1, Hi: minusZero}, {Lo: minusZero, Hi: 1}, {Lo: -least, Hi: least}, {Lo: -infinite, Hi: infinite}} {
		s, e := approx.Quot(api.Span{Lo: 1, Hi: 2}, b)
		wantSpan(t, "Quot", s, e, api.Span{}, api.ErrZero)
	}
}

// inside has some numbers of a span: its ends, where they are numbers, and others.
func inside(s api.Span) []*big.Rat {
	var out []*big.Rat
	for _, r := range []*big.Rat{new(big.Rat), num("1/3"), num("-2"), two(1500), opposite(two(1500)), two(-1500)} {
		if (end{0, r}).cmp(endOf(s.Lo)) >= 0 && (end{0, r}).cmp(endOf(s.Hi)) <= 0 {
			out = append(out, r)
		}
	}
	for _, f := range []float64{s.Lo, s.Hi} {
		if !math.IsInf(f, 0) {
			out = append(out, exact(f))
		}
	}
	if !math.IsInf(s.Lo, 0) && !math.IsInf(s.Hi, 0) {
		out = append(out, product(sum(exact(s.Lo), exact(s.Hi)), num("1/2")), product(sum(exact(s.Lo), exact(s.Lo), exact(s.Hi)), num("1/3")))
	}
	return out
}

func TestP4_12SpansHaveAll(t *testing.T) {
	eachTwoSpans(func(a, b api.Span) {
		added, _ := approx.Sum(a, b)
		less, _ := approx.Diff(a, b)
		times, _ := approx.Prod(a, b)
		by, e := approx.Quot(a, b)
		for _, x := range inside(a) {
			for _, y := range inside(b) {
				ok := approx.In(of(sum(x, y)), added) && approx.In(of(sum(x, opposite(y))), less) && approx.In(of(product(x, y)), times)
				if !ok || e == api.OK && !approx.In(of(new(big.Rat).Quo(x, y)), by) {
					t.Fatalf("%v and %v: %v of %v, %v of %v", a, b, x, added, y, times)
				}
			}
		}
	})
}

// has tells whether a span with the ends lo and hi of numbers lies in s.
func has(s api.Span, lo, hi end) bool {
	return endOf(s.Lo).cmp(lo) <= 0 && hi.cmp(endOf(s.Hi)) <= 0
}

func TestP4_12NoSpanIsNarrower(t *testing.T) {
	eachTwoSpans(func(a, b api.Span) {
		for do, ends := range map[string]func(a, b end) end{"Prod": productOfEnds, "Quot": quotientOfEnds} {
			s, e := approx.Prod(a, b)
			if do == "Quot" {
				s, e = approx.Quot(a, b)
			}
			if e != api.OK {
				continue
			}
			lo, hi := fourEnds(ends, a, b)
			if !has(s, lo, hi) {
				t.Fatalf("%s(%v, %v): %v", do, a, b, s)
			}
			next, _ := approx.Next(s.Lo)
			prev, _ := approx.Prev(s.Hi)
			if has(api.Span{Lo: next, Hi: s.Hi}, lo, hi) || has(api.Span{Lo: s.Lo, Hi: prev}, lo, hi) {
				t.Fatalf("%s(%v, %v): %v is not the narrowest", do, a, b, s)
			}
		}
	})
}
