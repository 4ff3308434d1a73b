package implied_test

import (
	"fmt"
	"maps"
	"math"
	"math/big"
	"math/rand"
	"slices"
	"testing"

	"fulcrum/api"
	"fulcrum/whole"
)

const full = 0xffffffff

// natIn, ratIn and in are what a Nat, a Rat and a Delta are read as (DOC.md, 'How a number is read').
func natIn(n api.Nat) *big.Int {
	out := new(big.Int)
	for i := len(n) - 1; i >= 0; i-- {
		out.Lsh(out, 32).Or(out, big.NewInt(int64(n[i])))
	}
	return out
}

func ratIn(r api.Rat) *big.Rat {
	num, den := natIn(r.Num.Abs), natIn(r.Den)
	if den.Sign() == 0 {
		return new(big.Rat)
	}
	if r.Num.Neg {
		num.Neg(num)
	}
	return new(big.Rat).SetFrac(num, den)
}

func in(d api.Delta) both { return both{ratIn(d.A), ratIn(d.B)} }

func sum(a, b *big.Rat) *big.Rat      { return new(big.Rat).Add(a, b) }
func product(a, b *big.Rat) *big.Rat  { return new(big.Rat).Mul(a, b) }
func quotient(a, b *big.Rat) *big.Rat { return new(big.Rat).Quo(a, b) }
func opposite(a *big.Rat) *big.Rat    { return new(big.Rat).Neg(a) }
func less(a, b *big.Rat) *big.Rat     { return new(big.Rat).Sub(a, b) }
func one() *big.Rat                   { return big.NewRat(1, 1) }

// both is a Delta's two numbers, worked with by math/big alone.
type both [2]*big.Rat

func nought() both { return both{new(big.Rat), new(big.Rat)} }

func (a both) cmp(b both) int {
	if c := a[0].Cmp(b[0]); c != 0 {
		return c
	}
	return a[1].Cmp(b[1])
}

// plus is a and c times b.
func (a both) plus(c *big.Rat, b both) both {
	return both{sum(a[0], product(c, b[0])), sum(a[1], product(c, b[1]))}
}

func (a both) String() string { return a[0].RatString() + " + " + a[1].RatString() + " d" }

// poly is a form that is worked out by math/big alone: the coefficients that are not 0, by their variables.
type poly map[int]*big.Rat

func polyOf(f api.Form) poly {
	out := poly{}
	for _, part := range f {
		out.put(part.Var, ratIn(part.Coef))
	}
	return out
}

// put adds c times v to p.
func (p poly) put(v int, c *big.Rat) {
	p[v] = sum(p.coef(v), c)
	if p[v].Sign() == 0 {
		delete(p, v)
	}
}

func (p poly) coef(v int) *big.Rat {
	if c, ok := p[v]; ok {
		return c
	}
	return new(big.Rat)
}

func (p poly) vars() []int { return slices.Sorted(maps.Keys(p)) }

// limbs, of and num make normal numbers without the program's help.
func limbs(n *big.Int) api.Nat {
	var out api.Nat
	for _, word := range n.Bits() {
		out = append(out, uint32(word), uint32(uint64(word)>>32))
	}
	for len(out) > 0 && out[len(out)-1] == 0 {
		out = out[:len(out)-1]
	}
	return out
}

func of(r *big.Rat) api.Rat {
	return api.Rat{Num: api.Int{Neg: r.Sign() < 0, Abs: limbs(r.Num())}, Den: limbs(r.Denom())}
}

func ofBoth(d both) api.Delta { return api.Delta{A: of(d[0]), B: of(d[1])} }

func bigNum(s string) *big.Rat {
	r, ok := new(big.Rat).SetString(s)
	if !ok {
		panic(s)
	}
	return r
}

func num(s string) api.Rat { return of(bigNum(s)) }

func pair(a, b string) both { return both{bigNum(a), bigNum(b)} }

// form is coefficients' texts and variables by turns, as they stand.
func form(l ...any) api.Form {
	var out api.Form
	for i := 0; i < len(l); i += 2 {
		out = append(out, api.Mono{Var: l[i+1].(int), Coef: num(l[i].(string))})
	}
	return out
}

// row is a basic variable and its form.
func row(basic int, l ...any) api.Row { return api.Row{Basic: basic, Form: form(l...)} }

// at is a bound: both numbers' texts, and its why.
func at(a, b string, why int) api.Bound {
	return api.Bound{Has: true, At: ofBoth(pair(a, b)), Why: why}
}

// none is a bound that is not there, with the other fields of one that is.
func none(a string, why int) api.Bound {
	return api.Bound{At: ofBoth(pair(a, "1")), Why: why}
}

// zeros is all manner of ways to write 0 as a Rat: without a Den, with Neg set, with noughts at a list's end.
func zeros() []api.Rat {
	return []api.Rat{
		{}, {Num: whole.Of(5)}, {Num: whole.Of(-5), Den: api.Nat{0, 0}}, {Den: api.Nat{1}}, {Num: api.Int{Neg: true}, Den: api.Nat{3}},
		{Num: api.Int{Neg: true, Abs: api.Nat{0, 0}}, Den: api.Nat{4, 0}}, {Num: api.Int{Neg: true, Abs: api.Nat{full, full}}},
	}
}

// otherwise is the same number, not in lowest terms and with a nought at the end of its lists.
func otherwise(r api.Rat) api.Rat {
	three := whole.Of(3)
	return api.Rat{
		Num: api.Int{Neg: r.Num.Neg, Abs: append(whole.Mul(api.Int{Abs: r.Num.Abs}, three).Abs, 0)},
		Den: append(whole.Mul(api.Int{Abs: r.Den}, three).Abs, 0),
	}
}

func otherwiseDelta(d api.Delta) api.Delta {
	return api.Delta{A: otherwise(d.A), B: otherwise(d.B)}
}

func isNormal(r api.Rat) bool {
	want := of(ratIn(r))
	return r.Num.Neg == want.Num.Neg && slices.Equal(r.Num.Abs, want.Num.Abs) && slices.Equal(r.Den, want.Den)
}

// someCoef is one of few numbers; now and then one that is not in lowest terms, 0, or a longer one.
func someCoef(r *rand.Rand) api.Rat {
	switch r.Intn(16) {
	case 0:
		return zeros()[r.Intn(len(zeros()))]
	case 1:
		return of(big.NewRat(r.Int63n(1<<40)-1<<39, 1+r.Int63n(1<<34)))
	case 2:
		return otherwise(of(big.NewRat(r.Int63n(5)-2, 1)))
	}
	return of(big.NewRat(r.Int63n(7)-3, 1+r.Int63n(6)/5))
}

func someDelta(r *rand.Rand) api.Delta {
	d := api.Delta{A: of(big.NewRat(r.Int63n(13)-6, 1+r.Int63n(2))), B: of(big.NewRat(r.Int63n(5)/2-1, 1))}
	switch r.Intn(6) {
	case 0:
		return otherwiseDelta(d)
	case 1:
		return api.Delta{A: d.A, B: zeros()[r.Intn(len(zeros()))]}
	case 2:
		return api.Delta{A: someCoef(r), B: someCoef(r)}
	}
	return d
}

// someVar is mostly one of few; now and then one that can't have a place.
func someVar(r *rand.Rand) int {
	return []int{0, 1, 2, 3, 4, 5, 0, 1, 2, 3, 4, 5, -1, math.MinInt, math.MaxInt, 65536}[r.Intn(16)]
}

// someForm is in any order, some variables in several parts, some of which fall away.
func someForm(r *rand.Rand) api.Form {
	var out api.Form
	for range r.Intn(5) {
		part := api.Mono{Var: someVar(r), Coef: someCoef(r)}
		out = append(out, part)
		if r.Intn(6) == 0 {
			out = append(out, api.Mono{Var: part.Var, Coef: otherwise(of(opposite(ratIn(part.Coef))))})
		}
	}
	r.Shuffle(len(out), func(i, j int) { out[i], out[j] = out[j], out[i] })
	return out
}

// someRow has its Basic in its Form now and then, with the coefficient 1 or another one.
func someRow(r *rand.Rand) api.Row {
	out := api.Row{Basic: someVar(r), Form: someForm(r)}
	if r.Intn(5) == 0 {
		out.Form = append(out.Form, api.Mono{Var: out.Basic, Coef: num([]string{"1", "1", "2", "-1"}[r.Intn(4)])})
	}
	return out
}

// someBound is there with the given odds of 8; all its fields are set in any case.
func someBound(r *rand.Rand, odds int) api.Bound {
	return api.Bound{Has: r.Intn(8) < odds, At: someDelta(r), Why: []int{r.Intn(9) - 2, r.Intn(3), -7, math.MinInt, math.MaxInt}[r.Intn(5)]}
}

// someLimits may be shorter than the variables are many, or longer; the lower bound may be above the upper one.
func someLimits(r *rand.Rand) []api.Limit {
	var out []api.Limit
	odds := 4 + r.Intn(5)
	for range []int{0, r.Intn(9), 6, 7}[r.Intn(4)] {
		out = append(out, api.Limit{Lower: someBound(r, odds), Upper: someBound(r, odds)})
	}
	return out
}

func wantErr(t *testing.T, what string, got, want api.Errno) {
	t.Helper()
	if got != want {
		t.Fatalf("%s: error %d, not %d", what, got, want)
	}
}

// wantBounds asks for these bounds, one by one in this order, and that their numbers are normal.
func wantBounds(t *testing.T, what string, got []api.Implied, want ...bound) {
	t.Helper()
	if len(got) != len(want) {
		t.Fatalf("%s: %v, not %v", what, told(got), want)
	}
	for i, b := range told(got) {
		if !b.same(want[i]) || !isNormal(got[i].At.A) || !isNormal(got[i].At.B) {
			t.Fatalf("%s: %v, not %v", what, told(got), want)
		}
		for _, m := range got[i].By {
			if !isNormal(m.Coef) {
				t.Fatalf("%s: %+v is not normal", what, m)
			}
		}
	}
}

func wantClauses(t *testing.T, what string, got []api.Clause, want ...api.Clause) {
	t.Helper()
	same := func(a, b api.Clause) bool { return slices.Equal(a, b) }
	if !slices.EqualFunc(got, want, same) {
		t.Fatalf("%s: %v, not %v", what, got, want)
	}
}

// times is a multiplier as the model has it.
type times struct {
	why  int
	coef *big.Rat
}

func (x times) String() string { return fmt.Sprintf("{%d, %s}", x.why, x.coef.RatString()) }

// by is multipliers by their whys and the coefficients' texts, by turns.
func by(l ...any) []times {
	var out []times
	for i := 0; i < len(l); i += 2 {
		out = append(out, times{l[i].(int), bigNum(l[i+1].(string))})
	}
	return out
}
