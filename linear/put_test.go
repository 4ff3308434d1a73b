package linear_test

import (
	"math"
	"math/big"
	"math/rand"
	"testing"

	"fulcrum/api"
	"fulcrum/linear"
)

// substituted is P6.4's own words: v's coefficient goes, and g is added so many times.
func substituted(f straight, v int, g straight) straight {
	c := f.of.at(v)
	return f.plus(opposed(c), straight{poly{v: bigNum("1")}, nothing()}).plus(c, g)
}

func opposed(r *big.Rat) *big.Rat { return new(big.Rat).Neg(r) }

func eachAffine(do func(r *rand.Rand, f, g api.Affine, v int)) {
	r := rand.New(rand.NewSource(6))
	for _, f := range edgeForms() {
		for _, v := range append(edgeVars(), 4, -4) {
			do(r, api.Affine{Form: f, Const: someRat(r)}, someAffine(r), v)
		}
	}
	for range 3000 {
		do(r, someAffine(r), someAffine(r), someVar(r))
	}
}

func TestP6_4Subst(t *testing.T) {
	eachAffine(func(r *rand.Rand, f, g api.Affine, v int) {
		wantAffine(t, "Subst", linear.Subst(f, v, g), substituted(affineIn(f), v, affineIn(g)))
		wantAffine(t, "Subst of itself", linear.Subst(f, v, f), substituted(affineIn(f), v, affineIn(f)))
	})
}

func TestP6_4SubstAtItsEdges(t *testing.T) {
	for _, c := range []struct {
		f    api.Affine
		v    int
		g    api.Affine
		want api.Affine
	}{
		{affine("5", "2", 1, "1", 2), 1, affine("3", "1", 1), affine("11", "2", 1, "1", 2)},
		{affine("5", "2", 1), 1, affine("1", "3", 1, "1", 4), affine("7", "6", 1, "2", 4)},
		{affine("5", "2", 1), 3, affine("1", "3", 1), affine("5", "2", 1)},
		{affine("5", "2", 1, "3", 4, "-2", 1), 1, affine("7", "1", 9), affine("5", "3", 4)},
		{affine("-6", "2", 1, "-4", 2), 1, affine("3", "2", 2), affine("0")},
		{affine("1", "1", 1, "1", 1, "1", 2), 1, affine("0", "1", 2), affine("1", "3", 2)},
		{affine("1", "1/2", -1), -1, affine("1/2", "2", math.MinInt), affine("5/4", "1", math.MinInt)},
		{affine("1", "1", 1), 1, affine("0"), affine("1")},
		{affine("0"), 1, affine("2", "1", 1), affine("0")},
	} {
		wantAffine(t, "Subst", linear.Subst(c.f, c.v, c.g), affineIn(c.want))
	}
}

// wantSolved holds an answer against P6.5's own words: with it in v's place, and only with that, f is 0.
func wantSolved(t *testing.T, f api.Affine, v int) {
	t.Helper()
	g, e := linear.Solve(f, v)
	p := affineIn(f)
	if p.of.at(v).Sign() == 0 {
		wantErr(t, "Solve", e, api.ErrVar)
		if len(g.Form) != 0 || !isZero(g.Const) {
			t.Fatalf("Solve: %v beside an error", g)
		}
		return
	}
	wantErr(t, "Solve", e, api.OK)
	wantAffine(t, "Solve", g, affineIn(g))
	left := substituted(p, v, affineIn(g))
	if affineIn(g).of.at(v).Sign() != 0 || len(left.of) != 0 || left.shift.Sign() != 0 {
		t.Fatalf("Solve of %v for %d: %v", p, v, affineIn(g))
	}
}

func TestP6_5Solve(t *testing.T) {
	eachAffine(func(r *rand.Rand, f, g api.Affine, v int) {
		wantSolved(t, f, v)
		f.Form = append(f.Form[:len(f.Form):len(f.Form)], api.Mono{Var: v, Coef: num("7/3")})
		wantSolved(t, f, v)
	})
}

func TestP6_5NoSuchVariable(t *testing.T) {
	for _, f := range []api.Affine{{}, affine("3"), affine("3", "1", 2), affine("0", "2", 1, "-2", 1), affine("1", "1/2", 1, "5", 2, "1/3", 1, "-5/6", 1)} {
		wantSolved(t, f, 1)
		wantSolved(t, f, -1)
		wantSolved(t, f, math.MinInt)
	}
	for _, c := range zeros() {
		wantSolved(t, api.Affine{Form: api.Form{{Var: 1, Coef: c}, {Var: 2, Coef: num("1")}}, Const: num("4")}, 1)
	}
}

func combined(l []api.Weighted) straight {
	out := straight{poly{}, nothing()}
	for _, w := range l {
		out = out.plus(ratIn(w.Coef), affineIn(w.Of))
	}
	return out
}

func TestP6_6Combine(t *testing.T) {
	r := rand.New(rand.NewSource(7))
	for range 3000 {
		var l []api.Weighted
		for range r.Intn(6) {
			l = append(l, api.Weighted{Of: someAffine(r), Coef: someRat(r)})
		}
		wantAffine(t, "Combine", linear.Combine(l), combined(l))
	}
}

func TestP6_6CombineAtItsEdges(t *testing.T) {
	none := straight{poly{}, nothing()}
	wantAffine(t, "Combine of nothing", linear.Combine(nil), none)
	wantAffine(t, "Combine of nothing", linear.Combine([]api.Weighted{}), none)
	wantAffine(t, "Combine of nothing once", linear.Combine([]api.Weighted{{}}), none)
	f := affine("5", "2", 1, "1", 2)
	for _, zero := range zeros() {
		wantAffine(t, "Combine, by 0", linear.Combine([]api.Weighted{{Of: f, Coef: zero}, {Of: f, Coef: zero}}), none)
		wantAffine(t, "Combine, by 0 and 1", linear.Combine([]api.Weighted{{Of: f, Coef: zero}, {Of: f, Coef: num("1")}}), affineIn(f))
	}
	wantAffine(t, "Combine, all goes away", linear.Combine([]api.Weighted{{Of: f, Coef: num("2/3")}, {Of: f, Coef: num("1/3")}, {Of: f, Coef: num("-1")}}), none)
	for _, c := range edges() {
		l := []api.Weighted{{Of: api.Affine{Form: api.Form{{Var: 6, Coef: c}}, Const: c}, Coef: num("1")}}
		wantAffine(t, "Combine of one", linear.Combine(l), combined(l))
	}
}

// wantShape holds Prime against P6.7's own words.
func wantShape(t *testing.T, f api.Form) {
	t.Helper()
	p, c := linear.Prime(f)
	wantForm(t, "Prime", p, in(p))
	wantRat(t, "Prime, how often", c, ratIn(c))
	if !in(f).same(poly{}.plus(ratIn(c), in(p))) {
		t.Fatalf("Prime of %v: %v and %v", in(f), in(p), ratIn(c))
	}
	if len(in(f)) == 0 {
		wantForm(t, "Prime of the empty form", p, nil)
		wantRat(t, "Prime of the empty form", c, bigNum("1"))
		return
	}
	common := new(big.Int)
	for _, d := range in(p) {
		if !d.IsInt() {
			t.Fatalf("Prime of %v: %v", in(f), in(p))
		}
		common.GCD(nil, nil, common, new(big.Int).Abs(d.Num()))
	}
	if common.Cmp(big.NewInt(1)) != 0 || in(p)[in(p).vars()[0]].Sign() <= 0 {
		t.Fatalf("Prime of %v: %v", in(f), in(p))
	}
}

func TestP6_7Prime(t *testing.T) {
	eachForm(func(f api.Form) { wantShape(t, f) })
}

func wantPrime(t *testing.T, f, p api.Form, c string) {
	t.Helper()
	wantShape(t, f)
	shape, often := linear.Prime(f)
	wantForm(t, "Prime", shape, in(p))
	wantRat(t, "Prime, how often", often, bigNum(c))
}

func TestP6_7PrimeAtItsEdges(t *testing.T) {
	wantPrime(t, nil, nil, "1")
	wantPrime(t, form("0", 3), nil, "1")
	wantPrime(t, form("2", 3, "-2", 3), nil, "1")
	wantPrime(t, form("1", 3), form("1", 3), "1")
	wantPrime(t, form("-1", 3), form("1", 3), "-1")
	wantPrime(t, form("-6/35", math.MinInt), form("1", math.MinInt), "-6/35")
	wantPrime(t, form("1", 7, "-2", 3), form("2", 3, "-1", 7), "-1")
	wantPrime(t, form("6", 1, "10", 2, "15", 3), form("6", 1, "10", 2, "15", 3), "1")
	wantPrime(t, form("6", 1, "-12", 2, "18", 3), form("1", 1, "-2", 2, "3", 3), "6")
	wantPrime(t, form("1/6", 1, "1/10", 2, "1/15", 3), form("5", 1, "3", 2, "2", 3), "1/30")
	wantPrime(t, form("-4/9", 1, "6/25", 2, "-10/21", 3), form("350", 1, "-189", 2, "375", 3), "-2/1575")
	wantPrime(t, form("1", 1, "5", 0, "-1", 1, "10", 2), form("1", 0, "2", 2), "5")
}

// Whole and broken coefficients of many limbs, with a long common divisor.
func TestP6_7PrimeOfLongNumbers(t *testing.T) {
	r := rand.New(rand.NewSource(8))
	long := func() *big.Int {
		n := new(big.Int).Lsh(big.NewInt(1), uint(100+r.Intn(4000)))
		return n.Add(n, new(big.Int).Rand(r, n))
	}
	for i := range 60 {
		often := new(big.Rat).SetFrac(long(), big.NewInt(1))
		if i%2 == 0 {
			often.SetFrac(long(), long())
		}
		var f api.Form
		for range 1 + r.Intn(5) {
			c := new(big.Rat).SetInt(long())
			if i%3 == 0 {
				c.SetFrac(long(), long())
			}
			if r.Intn(2) == 0 {
				c.Neg(c)
			}
			f = append(f, api.Mono{Var: someVar(r), Coef: of(product(often, c))})
		}
		wantShape(t, f)
	}
}

func wantRename(t *testing.T, f api.Form, to []int, want api.Form) {
	t.Helper()
	g, e := linear.Rename(f, to)
	wantErr(t, "Rename", e, api.OK)
	wantForm(t, "Rename", g, in(want))
}

func wantNoRename(t *testing.T, f api.Form, to []int) {
	t.Helper()
	g, e := linear.Rename(f, to)
	wantErr(t, "Rename", e, api.ErrVar)
	if len(g) != 0 {
		t.Fatalf("Rename: %v beside an error", g)
	}
}

func TestP6_8Rename(t *testing.T) {
	r := rand.New(rand.NewSource(9))
	right := 0
	eachForm(func(f api.Form) {
		for range 3 {
			var to []int
			for range r.Intn(12) {
				to = append(to, someVar(r))
			}
			var want api.Form
			ok := true
			for v, c := range in(f) {
				if v < 0 || v >= len(to) {
					ok = false
					break
				}
				want = append(want, api.Mono{Var: to[v], Coef: of(c)})
			}
			if !ok {
				wantNoRename(t, f, to)
				continue
			}
			right++
			wantRename(t, f, to, want)
		}
	})
	if right < 1000 {
		t.Fatalf("%d forms with other names alone", right)
	}
}

func TestP6_8RenameAtItsEdges(t *testing.T) {
	wantRename(t, nil, nil, nil)
	wantRename(t, form("0", 5, "0", -1), nil, nil)
	wantRename(t, form("1", -1, "2", 0, "-1", -1), []int{4}, form("2", 4))
	wantRename(t, form("1", math.MaxInt, "2", 0, "-1", math.MaxInt), []int{-4}, form("2", -4))
	wantRename(t, form("1", 0, "2", 1, "-3", 2), []int{9, 9, 9}, nil)
	wantRename(t, form("1", 0, "2", 1, "-3", 2, "1", 3), []int{9, 9, 9, -9}, form("1", -9))
	wantRename(t, form("1", 0, "2", 1, "3", 2), []int{2, 1, 0}, form("3", 0, "2", 1, "1", 2))
	wantRename(t, form("1", 0, "2", 1), []int{math.MaxInt, math.MinInt, 7}, form("2", math.MinInt, "1", math.MaxInt))
	for _, v := range []int{-1, math.MinInt, 2, 3, math.MaxInt} {
		wantNoRename(t, form("1", v), []int{0, 1})
		wantNoRename(t, form("1", 0, "1", v, "1", 1), []int{0, 1})
	}
	wantNoRename(t, form("1", 0), nil)
	for _, zero := range zeros() {
		wantRename(t, api.Form{{Var: 0, Coef: num("3")}, {Var: 8, Coef: zero}, {Var: -8, Coef: zero}}, []int{6}, form("3", 6))
	}
}
