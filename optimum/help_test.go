package optimum_test

import (
	"maps"
	"math"
	"math/big"
	"math/rand"
	"slices"
	"strings"
	"testing"

	"fulcrum/api"
	"fulcrum/whole"
)

const full = 0xffffffff

// natIn, ratIn and in are what a Nat, a Rat and a Delta are read as (DOC.md, 'How a number is read').
func natIn(n api.Nat) *big.Int {
	out := new(big.Int)
	for i := len(n) - 1; i >= 0; i-- {
		out.Lsh(out, 32).Or(out, big.NewInt(int64(n[i])))
	}
	return out
}

func ratIn(r api.Rat) *big.Rat {
	num, den := natIn(r.Num.Abs), natIn(r.Den)
	if den.Sign() == 0 {
		return new(big.Rat)
	}
	if r.Num.Neg {
		num.Neg(num)
	}
	return new(big.Rat).SetFrac(num, den)
}

func in(d api.Delta) both { return both{ratIn(d.A), ratIn(d.B)} }

func sum(a, b *big.Rat) *big.Rat     { return new(big.Rat).Add(a, b) }
func product(a, b *big.Rat) *big.Rat { return new(big.Rat).Mul(a, b) }
func opposite(a *big.Rat) *big.Rat   { return new(big.Rat).Neg(a) }
func one() *big.Rat                  { return big.NewRat(1, 1) }

// both is a Delta's two numbers, worked with by math/big alone.
type both [2]*big.Rat

func nought() both { return both{new(big.Rat), new(big.Rat)} }

func (a both) cmp(b both) int {
	if c := a[0].Cmp(b[0]); c != 0 {
		return c
	}
	return a[1].Cmp(b[1])
}

// plus is a and c times b.
func (a both) plus(c *big.Rat, b both) both {
	return both{sum(a[0], product(c, b[0])), sum(a[1], product(c, b[1]))}
}

func (a both) scaled(c *big.Rat) both { return nought().plus(c, a) }

func (a both) String() string { return a[0].RatString() + " + " + a[1].RatString() + " d" }

func (a both) delta() api.Delta { return api.Delta{A: of(a[0]), B: of(a[1])} }

// poly is a form that is worked out by math/big alone: the coefficients that are not 0, by their variables.
type poly map[int]*big.Rat

func polyOf(f api.Form) poly {
	out := poly{}
	for _, part := range f {
		out.put(part.Var, ratIn(part.Coef))
	}
	return out
}

// put adds c times v to p.
func (p poly) put(v int, c *big.Rat) {
	p[v] = sum(p.coef(v), c)
	if p[v].Sign() == 0 {
		delete(p, v)
	}
}

func (p poly) coef(v int) *big.Rat {
	if c, ok := p[v]; ok {
		return c
	}
	return new(big.Rat)
}

func (p poly) vars() []int { return slices.Sorted(maps.Keys(p)) }

// plus is p and c times q.
func (p poly) plus(c *big.Rat, q poly) poly {
	out := maps.Clone(p)
	for v, d := range q {
		out.put(v, product(c, d))
	}
	return out
}

func (p poly) same(q poly) bool { return len(p.plus(big.NewRat(-1, 1), q)) == 0 }

func (p poly) value(vals []both) both {
	out := nought()
	for v, c := range p {
		out = out.plus(c, vals[v])
	}
	return out
}

// limbs, of and num make normal numbers without the program's help.
func limbs(n *big.Int) api.Nat {
	var out api.Nat
	for _, word := range n.Bits() {
		out = append(out, uint32(word), uint32(uint64(word)>>32))
	}
	for len(out) > 0 && out[len(out)-1] == 0 {
		out = out[:len(out)-1]
	}
	return out
}

func of(r *big.Rat) api.Rat {
	return api.Rat{Num: api.Int{Neg: r.Sign() < 0, Abs: limbs(r.Num())}, Den: limbs(r.Denom())}
}

func bigNum(s string) *big.Rat {
	r, ok := new(big.Rat).SetString(s)
	if !ok {
		panic(s)
	}
	return r
}

func num(s string) api.Rat { return of(bigNum(s)) }

func pair(a, b string) api.Delta { return api.Delta{A: num(a), B: num(b)} }

// plain is a number without delta.
func plain(s string) api.Delta { return pair(s, "0") }

// number is one whose part times d, if it has one, stands behind a "&".
func number(text string) api.Delta {
	a, b, has := strings.Cut(text, "&")
	if !has {
		return plain(a)
	}
	return pair(a, b)
}

// form is coefficients' texts and variables by turns, as they stand.
func form(l ...any) api.Form {
	var out api.Form
	for i := 0; i < len(l); i += 2 {
		out = append(out, api.Mono{Var: l[i+1].(int), Coef: num(l[i].(string))})
	}
	return out
}

// affine is a constant's text, and a form's coefficients and variables by turns.
func affine(add string, l ...any) api.Affine {
	return api.Affine{Form: form(l...), Const: num(add)}
}

func turned(f api.Affine) api.Affine {
	out := api.Affine{Const: of(opposite(ratIn(f.Const)))}
	for _, part := range f.Form {
		out.Form = append(out.Form, api.Mono{Var: part.Var, Coef: of(opposite(ratIn(part.Coef)))})
	}
	return out
}

// by is a dual's whys and the coefficients' texts, by turns.
func by(l ...any) []api.Multiplier {
	var out []api.Multiplier
	for i := 0; i < len(l); i += 2 {
		out = append(out, api.Multiplier{Why: l[i].(int), Coef: num(l[i+1].(string))})
	}
	return out
}

// zeros is all manner of ways to write 0 as a Rat: without a Den, with Neg set, with noughts at a list's end.
func zeros() []api.Rat {
	return []api.Rat{
		{}, {Num: whole.Of(5)}, {Num: whole.Of(-5), Den: api.Nat{0, 0}}, {Den: api.Nat{1}}, {Num: api.Int{Neg: true}, Den: api.Nat{3}},
		{Num: api.Int{Neg: true, Abs: api.Nat{0, 0}}, Den: api.Nat{4, 0}}, {Num: api.Int{Neg: true, Abs: api.Nat{full, full}}},
	}
}

// otherwise is the same number, not in lowest terms and with a nought at the end of its lists.
func otherwise(r api.Rat) api.Rat {
	three := whole.Of(3)
	return api.Rat{
		Num: api.Int{Neg: r.Num.Neg, Abs: append(whole.Mul(api.Int{Abs: r.Num.Abs}, three).Abs, 0)},
		Den: append(whole.Mul(api.Int{Abs: r.Den}, three).Abs, 0),
	}
}

func otherDelta(d api.Delta) api.Delta { return api.Delta{A: otherwise(d.A), B: otherwise(d.B)} }

// otherForm is the same form: its parts the other way round, one of them in two pieces, with others that are 0 or fall away.
func otherForm(f api.Form) api.Form {
	out := api.Form{{Var: 99, Coef: num("2/3")}, {Var: -7}, {Var: math.MaxInt, Coef: zeros()[2]}}
	for _, part := range slices.Backward(f) {
		out = append(out, api.Mono{Var: part.Var, Coef: otherwise(part.Coef)})
	}
	for _, c := range []string{"5/7", "-3", "16/7"} {
		out = append(out, api.Mono{Var: 0, Coef: otherwise(num(c))})
	}
	return append(out, api.Mono{Var: 99, Coef: otherwise(num("-2/3"))})
}

// otherAffine is the same affine form, written otherwise.
func otherAffine(f api.Affine) api.Affine {
	return api.Affine{Form: otherForm(f.Form), Const: otherwise(f.Const)}
}

// otherDual takes the same bounds as many times: the other way round, each in two pieces, one of which may be 0.
func otherDual(l []api.Multiplier) []api.Multiplier {
	var out []api.Multiplier
	for i, m := range slices.Backward(l) {
		half := product(ratIn(m.Coef), big.NewRat(int64(i%3), 3))
		out = append(out, api.Multiplier{Why: m.Why, Coef: otherwise(of(half))})
	}
	for i, m := range l {
		rest := product(ratIn(m.Coef), big.NewRat(3-int64(i%3), 3))
		out = append(out, api.Multiplier{Why: m.Why, Coef: otherwise(of(rest))})
	}
	return out
}

func isNormal(r api.Rat) bool {
	want := of(ratIn(r))
	return r.Num.Neg == want.Num.Neg && slices.Equal(r.Num.Abs, want.Num.Abs) && slices.Equal(r.Den, want.Den)
}

// someCoef is one of few numbers; now and then one that is not in lowest terms, 0, or a longer one.
func someCoef(r *rand.Rand) api.Rat {
	switch r.Intn(16) {
	case 0:
		return zeros()[r.Intn(len(zeros()))]
	case 1:
		return of(big.NewRat(r.Int63n(1<<40)-1<<39, 1+r.Int63n(1<<34)))
	case 2:
		return otherwise(of(big.NewRat(r.Int63n(5)-2, 1)))
	}
	return of(big.NewRat(r.Int63n(7)-3, 1+r.Int63n(6)/5))
}

func someDelta(r *rand.Rand) api.Delta {
	d := api.Delta{A: of(big.NewRat(r.Int63n(13)-6, 1+r.Int63n(2))), B: of(big.NewRat(r.Int63n(7)/2-1, 1))}
	switch r.Intn(6) {
	case 0:
		return otherDelta(d)
	case 1:
		return api.Delta{A: d.A, B: zeros()[r.Intn(len(zeros()))]}
	case 2:
		return api.Delta{A: someCoef(r), B: someCoef(r)}
	}
	return d
}

// someForm is over so many variables: in any order, some in several parts, now and then with parts that fall away.
func someForm(r *rand.Rand, vars int) api.Form {
	var out api.Form
	for range min(r.Intn(5), 5*vars) {
		out = append(out, api.Mono{Var: r.Intn(vars), Coef: someCoef(r)})
	}
	if r.Intn(6) == 0 {
		v, c := far(vars)[r.Intn(8)], someCoef(r)
		out = append(out, api.Mono{Var: v, Coef: c}, api.Mono{Var: v, Coef: of(opposite(ratIn(c)))})
	}
	r.Shuffle(len(out), func(i, j int) { out[i], out[j] = out[j], out[i] })
	return out
}

func someAffine(r *rand.Rand, vars int) api.Affine {
	return api.Affine{Form: someForm(r, vars), Const: someCoef(r)}
}

// far is variables that are none of so many.
func far(vars int) []int {
	return []int{-1, -2, vars, vars + 1, 65536, math.MaxInt32, math.MaxInt, math.MinInt}
}

func wantErr(t *testing.T, what string, got, want api.Errno) {
	t.Helper()
	if got != want {
		t.Fatalf("%s: error %d, not %d", what, got, want)
	}
}

func wantInt(t *testing.T, what string, got, want int) {
	t.Helper()
	if got != want {
		t.Fatalf("%s: %d, not %d", what, got, want)
	}
}

// wantDelta asks for that number, and that it is normal.
func wantDelta(t *testing.T, what string, got api.Delta, want both) {
	t.Helper()
	if in(got).cmp(want) != 0 || !isNormal(got.A) || !isNormal(got.B) {
		t.Fatalf("%s: %v (%+v), not %v", what, in(got), got, want)
	}
}

func wantProof(t *testing.T, what string, got, want bool) {
	t.Helper()
	if got != want {
		t.Fatalf("%s: Proves: %v, not %v", what, got, want)
	}
}

// isBare: it has neither a limb nor a sign.
func isBare(d api.Delta) bool {
	return len(d.A.Num.Abs)+len(d.A.Den)+len(d.B.Num.Abs)+len(d.B.Den) == 0 && !d.A.Num.Neg && !d.B.Num.Neg
}

// wantBare: an optimum of that kind, all else of which is zero.
func wantBare(t *testing.T, what string, o api.Optimum, kind int) {
	t.Helper()
	if o.Kind != kind || !isBare(o.Value) || len(o.Values)+len(o.Dual) > 0 {
		t.Fatalf("%s: %+v, not the kind %d alone", what, o, kind)
	}
}
