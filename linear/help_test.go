package linear_test

import (
	"maps"
	"math"
	"math/big"
	"math/rand"
	"slices"
	"testing"

	"fulcrum/api"
	"fulcrum/whole"
)

const full = 0xffffffff

// poly is a form that is worked out by math/big alone: the coefficients that are not 0, by their variables.
type poly map[int]*big.Rat

// straight is a poly and a constant.
type straight struct {
	of    poly
	shift *big.Rat
}

// natIn, ratIn and in are what a Nat, a Rat and a Form are read as (DOC.md, 'How a number is read').
func natIn(n api.Nat) *big.Int {
	out := new(big.Int)
	for i := len(n) - 1; i >= 0; i-- {
		out.Lsh(out, 32).Or(out, big.NewInt(int64(n[i])))
	}
	return out
}

func ratIn(r api.Rat) *big.Rat {
	num, den := natIn(r.Num.Abs), natIn(r.Den)
	if den.Sign() == 0 {
		return new(big.Rat)
	}
	if r.Num.Neg {
		num.Neg(num)
	}
	return new(big.Rat).SetFrac(num, den)
}

func in(f api.Form) poly {
	out := poly{}
	for _, part := range f {
		out.put(part.Var, ratIn(part.Coef))
	}
	return out
}

func affineIn(f api.Affine) straight { return straight{in(f.Form), ratIn(f.Const)} }

// put adds c times v to p.
func (p poly) put(v int, c *big.Rat) {
	p[v] = sum(p.at(v), c)
	if p[v].Sign() == 0 {
		delete(p, v)
	}
}

func (p poly) at(v int) *big.Rat {
	if c, ok := p[v]; ok {
		return c
	}
	return nothing()
}

func (p poly) vars() []int { return slices.Sorted(maps.Keys(p)) }

// plus is p and c times q.
func (p poly) plus(c *big.Rat, q poly) poly {
	out := maps.Clone(p)
	for v, d := range q {
		out.put(v, product(c, d))
	}
	return out
}

func (p poly) same(q poly) bool {
	return len(p.plus(bigNum("-1"), q)) == 0
}

func (a straight) plus(c *big.Rat, b straight) straight {
	return straight{a.of.plus(c, b.of), sum(a.shift, product(c, b.shift))}
}

func nothing() *big.Rat              { return new(big.Rat) }
func sum(a, b *big.Rat) *big.Rat     { return new(big.Rat).Add(a, b) }
func less(a, b *big.Rat) *big.Rat    { return new(big.Rat).Sub(a, b) }
func product(a, b *big.Rat) *big.Rat { return new(big.Rat).Mul(a, b) }

// limbs, of and num make normal numbers without the program's help.
func limbs(n *big.Int) api.Nat {
	var out api.Nat
	for _, word := range n.Bits() {
		out = append(out, uint32(word), uint32(uint64(word)>>32))
	}
	for len(out) > 0 && out[len(out)-1] == 0 {
		out = out[:len(out)-1]
	}
	return out
}

func of(r *big.Rat) api.Rat {
	return api.Rat{Num: api.Int{Neg: r.Sign() < 0, Abs: limbs(r.Num())}, Den: limbs(r.Denom())}
}

func bigNum(s string) *big.Rat {
	r, ok := new(big.Rat).SetString(s)
	if !ok {
		panic(s)
	}
	return r
}

func num(s string) api.Rat { return of(bigNum(s)) }

// form is coefficients' texts and variables by turns, as they stand.
func form(l ...any) api.Form {
	var out api.Form
	for i := 0; i < len(l); i += 2 {
		out = append(out, api.Mono{Var: l[i+1].(int), Coef: num(l[i].(string))})
	}
	return out
}

// affine is a constant's text ahead of its form.
func affine(c string, l ...any) api.Affine {
	return api.Affine{Form: form(l...), Const: num(c)}
}

func isNormal(r api.Rat) bool {
	want := of(ratIn(r))
	return r.Num.Neg == want.Num.Neg && slices.Equal(r.Num.Abs, want.Num.Abs) && slices.Equal(r.Den, want.Den)
}

func wantRat(t *testing.T, what string, got api.Rat, want *big.Rat) {
	t.Helper()
	if !isNormal(got) || ratIn(got).Cmp(want) != 0 {
		t.Fatalf("%s: %v, not %v", what, got, want)
	}
}

// wantForm asks for that form, and that it is normal: by rising variables, each once, no coefficient 0, all of them normal.
func wantForm(t *testing.T, what string, got api.Form, want poly) {
	t.Helper()
	if len(got) != len(want) {
		t.Fatalf("%s: %v, not %v", what, in(got), want)
	}
	for i, v := range want.vars() {
		if got[i].Var != v || !isNormal(got[i].Coef) || ratIn(got[i].Coef).Cmp(want[v]) != 0 {
			t.Fatalf("%s: %v, not %v", what, in(got), want)
		}
	}
}

func wantAffine(t *testing.T, what string, got api.Affine, want straight) {
	t.Helper()
	wantForm(t, what, got.Form, want.of)
	wantRat(t, what+", constant", got.Const, want.shift)
}

func wantErr(t *testing.T, what string, got, want api.Errno) {
	t.Helper()
	if got != want {
		t.Fatalf("%s: error %d, not %d", what, got, want)
	}
}

func isZero(r api.Rat) bool {
	return !r.Num.Neg && len(r.Num.Abs) == 0 && len(r.Den) == 0
}

// same: two answers are one form, which is normal.
func same(t *testing.T, what string, a, b api.Form) {
	t.Helper()
	wantForm(t, what, a, in(b))
	wantForm(t, what, b, in(a))
}

// zeros is all manner of ways to write 0 as a Rat: without a Den, with Neg set, with noughts at a list's end.
func zeros() []api.Rat {
	return []api.Rat{
		{}, {Num: whole.Of(5)}, {Num: whole.Of(-5), Den: api.Nat{0, 0}}, {Den: api.Nat{1}}, {Num: api.Int{Neg: true}, Den: api.Nat{3}},
		{Num: api.Int{Neg: true, Abs: api.Nat{0, 0}}, Den: api.Nat{4, 0}}, {Num: api.Int{Neg: true, Abs: api.Nat{full, full}}},
	}
}

// edges has numbers of both signs, some not in lowest terms, some with noughts at the end of lists; and all zeros.
func edges() []api.Rat {
	out := zeros()
	for _, c := range [][2]api.Nat{
		{{1}, {1}}, {{1, 0}, {1, 0, 0}}, {{1}, {2}}, {{2, 0}, {4, 0}}, {{7}, {2}}, {{10}, {5}}, {{1}, {full}}, {{0, 0, 1}, {0, 1}}, {{full, full, 0}, {1, 1}},
	} {
		out = append(out, api.Rat{Num: api.Int{Abs: c[0]}, Den: c[1]}, api.Rat{Num: api.Int{Neg: true, Abs: c[0]}, Den: c[1]})
	}
	return out
}

func someNat(r *rand.Rand, most int) api.Nat {
	out := make(api.Nat, r.Intn(most+1))
	for i := range out {
		out[i] = [4]uint32{r.Uint32(), r.Uint32() % 7, full, 0}[r.Intn(4)]
	}
	return out
}

// someRat is one of the edges, a small number, or one of several limbs; it may be without a Den and not in lowest terms.
func someRat(r *rand.Rand) api.Rat {
	switch r.Intn(4) {
	case 0:
		return edges()[r.Intn(len(edges()))]
	case 1:
		most := [2]int{2, 9}[r.Intn(2)]
		return api.Rat{Num: api.Int{Neg: r.Intn(2) == 0, Abs: someNat(r, most)}, Den: someNat(r, most)}
	}
	return smallRat(r)
}

func smallRat(r *rand.Rand) api.Rat {
	return of(big.NewRat(r.Int63n(9)-4, 1+r.Int63n(3)))
}

// otherwise is the same number, not in lowest terms and with a nought at the end of its lists.
func otherwise(r api.Rat) api.Rat {
	three := whole.Of(3)
	return api.Rat{
		Num: api.Int{Neg: r.Num.Neg, Abs: append(whole.Mul(api.Int{Abs: r.Num.Abs}, three).Abs, 0)},
		Den: append(whole.Mul(api.Int{Abs: r.Den}, three).Abs, 0),
	}
}

func opposite(r api.Rat) api.Rat {
	return api.Rat{Num: api.Int{Neg: !r.Num.Neg, Abs: r.Num.Abs}, Den: r.Den}
}

// edgeVars are few, so that some stand in several parts of a form; the least and the greatest int are among them.
func edgeVars() []int {
	return []int{0, 1, 2, 3, 5, 9, -1, -2, math.MinInt, math.MaxInt}
}

func someVar(r *rand.Rand) int {
	return edgeVars()[r.Intn(len(edgeVars()))]
}

// someForm has its parts in any order, one variable in several parts, some that cancel one another.
func someForm(r *rand.Rand) api.Form {
	var out api.Form
	for range r.Intn(7) {
		out = append(out, api.Mono{Var: someVar(r), Coef: someRat(r)})
		if r.Intn(4) == 0 {
			was := out[r.Intn(len(out))]
			out = append(out, api.Mono{Var: was.Var, Coef: opposite(otherwise(was.Coef))})
		}
	}
	return out
}

// lowForm has the variables from 0 to 3 alone, and small coefficients.
func lowForm(r *rand.Rand) api.Form {
	var out api.Form
	for range r.Intn(5) {
		out = append(out, api.Mono{Var: r.Intn(4), Coef: smallRat(r)})
	}
	return out
}

func someAffine(r *rand.Rand) api.Affine {
	return api.Affine{Form: someForm(r), Const: someRat(r)}
}

func edgeForms() []api.Form {
	least, most := math.MinInt, math.MaxInt
	out := []api.Form{
		nil, {}, form("1", 0), form("-1", 7), form("2/3", -1), form("1", least), form("-1/2", most),
		form("1", 0, "2", 1, "3", 2), form("3", 2, "2", 1, "1", 0), form("1", 1, "1", 0, "1", 2, "1", -1), form("5", most, "7", least), form("1", least, "1", 0, "1", most, "2", least, "-1", most),
		form("2", 3, "1", 1, "-2", 3, "0", 9), form("1", 4, "-1", 4), form("1/2", 4, "1/3", 4, "1/6", 4), form("1/2", 4, "1/2", 4, "-1", 4, "3", 2), form("0", 1, "0", 0, "0", 1),
		{{Var: 3, Coef: api.Rat{Num: whole.Of(6), Den: api.Nat{4}}}, {Var: 3, Coef: api.Rat{Num: api.Int{Abs: api.Nat{1, 0}}, Den: api.Nat{2, 0, 0}}}, {Var: 2, Coef: api.Rat{Num: whole.Of(9)}}},
	}
	for _, c := range edges() {
		out = append(out, api.Form{{Var: 1, Coef: c}}, api.Form{{Var: 2, Coef: num("3")}, {Var: -4, Coef: c}, {Var: 2, Coef: c}})
	}
	return out
}

func eachForm(do func(f api.Form)) {
	for _, f := range edgeForms() {
		do(f)
	}
	r := rand.New(rand.NewSource(1))
	for range 3000 {
		do(someForm(r))
	}
}

// eachPair hands on pairs of edges, and pairs of which some are one form, written otherwise, and some are so but for one part.
func eachPair(do func(f, g api.Form)) {
	l := edgeForms()
	for _, f := range l {
		for _, g := range l {
			do(f, g)
		}
	}
	r := rand.New(rand.NewSource(2))
	for i := range 2000 {
		f, g := someForm(r), someForm(r)
		if i%2 == 0 {
			g = shuffled(r, f)
		}
		if i%4 == 0 {
			g = append(g, api.Mono{Var: someVar(r), Coef: smallRat(r)})
		}
		do(f, g)
		do(g, f)
	}
}

// shuffled is the same form in another order, its numbers written otherwise.
func shuffled(r *rand.Rand, f api.Form) api.Form {
	var out api.Form
	for _, i := range r.Perm(len(f)) {
		out = append(out, api.Mono{Var: f[i].Var, Coef: otherwise(f[i].Coef)})
	}
	return out
}

func someVals(r *rand.Rand) []api.Rat {
	var out []api.Rat
	for range r.Intn(12) {
		out = append(out, someRat(r))
	}
	return out
}

func someDeltas(r *rand.Rand) []api.Delta {
	var out []api.Delta
	for range r.Intn(12) {
		out = append(out, api.Delta{A: someRat(r), B: someRat(r)})
	}
	return out
}
