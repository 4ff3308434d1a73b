package linear_test

import (
	"math/rand"
	"testing"

	"fulcrum/api"
	"fulcrum/delta"
	"fulcrum/linear"
	"fulcrum/ratio"
)

// triples are for the laws of three forms, with two numbers.
func triples(do func(f, g, h api.Form, x, y api.Rat)) {
	r := rand.New(rand.NewSource(10))
	for i := range 1200 {
		f, g, h := someForm(r), someForm(r), someForm(r)
		if i%3 == 0 {
			g = shuffled(r, f)
		}
		do(f, g, h, someRat(r), smallRat(r))
	}
}

func TestP6_10Module(t *testing.T) {
	one, minus := ratio.Whole(1), ratio.Whole(-1)
	triples(func(f, g, h api.Form, x, y api.Rat) {
		same(t, "f + g", linear.Add(f, g), linear.Add(g, f))
		same(t, "f + g + h", linear.Add(linear.Add(f, g), h), linear.Add(f, linear.Add(g, h)))
		same(t, "f + 0", linear.Add(f, nil), linear.Norm(f))
		same(t, "f - f", linear.Add(f, linear.Scale(minus, f)), nil)
		same(t, "f - g", linear.Sub(f, g), linear.Add(f, linear.Scale(minus, g)))
		same(t, "1 f", linear.Scale(one, f), linear.Norm(f))
		same(t, "x (y f)", linear.Scale(x, linear.Scale(y, f)), linear.Scale(ratio.Mul(x, y), f))
		same(t, "x (f + g)", linear.Scale(x, linear.Add(f, g)), linear.Add(linear.Scale(x, f), linear.Scale(x, g)))
		same(t, "(x + y) f", linear.Scale(ratio.Add(x, y), f), linear.Add(linear.Scale(x, f), linear.Scale(y, f)))
	})
}

func wantSame(t *testing.T, what string, a, b api.Rat) {
	t.Helper()
	wantRat(t, what, a, ratIn(b))
	wantRat(t, what, b, ratIn(a))
}

func TestP6_10ValueIsLinear(t *testing.T) {
	r := rand.New(rand.NewSource(11))
	triples(func(f, g, h api.Form, x, y api.Rat) {
		var a, b, both []api.Rat
		for range 10 {
			p, q := someRat(r), someRat(r)
			a, b, both = append(a, p), append(b, q), append(both, ratio.Add(ratio.Mul(x, p), ratio.Mul(y, q)))
		}
		mixed := linear.Add(linear.Scale(x, f), linear.Scale(y, g))
		wantSame(t, "in the form", linear.Value(mixed, a), ratio.Add(ratio.Mul(x, linear.Value(f, a)), ratio.Mul(y, linear.Value(g, a))))
		wantSame(t, "in the values", linear.Value(f, both), ratio.Add(ratio.Mul(x, linear.Value(f, a)), ratio.Mul(y, linear.Value(f, b))))
	})
}

func TestP6_10DeltasAreLinear(t *testing.T) {
	r := rand.New(rand.NewSource(12))
	triples(func(f, g, h api.Form, x, y api.Rat) {
		var a, b, both []api.Delta
		for range 10 {
			p, q := api.Delta{A: someRat(r), B: someRat(r)}, api.Delta{A: someRat(r), B: someRat(r)}
			a, b, both = append(a, p), append(b, q), append(both, delta.Add(delta.Scale(x, p), delta.Scale(y, q)))
		}
		mixed := linear.Add(linear.Scale(x, f), linear.Scale(y, g))
		for _, c := range [][2]api.Delta{
			{linear.Deltas(mixed, a), delta.Add(delta.Scale(x, linear.Deltas(f, a)), delta.Scale(y, linear.Deltas(g, a)))},
			{linear.Deltas(f, both), delta.Add(delta.Scale(x, linear.Deltas(f, a)), delta.Scale(y, linear.Deltas(f, b)))},
		} {
			wantSame(t, "A", c[0].A, c[1].A)
			wantSame(t, "B", c[0].B, c[1].B)
		}
	})
}

func valueAt(f api.Affine, vals []api.Rat) api.Rat {
	return ratio.Add(linear.Value(f.Form, vals), f.Const)
}

func TestP6_11WhatIsPutIn(t *testing.T) {
	eachAffine(func(r *rand.Rand, f, g api.Affine, v int) {
		if v < 0 || v > 9 {
			v = r.Intn(10)
		}
		vals := make([]api.Rat, 10)
		for i := range vals {
			vals[i] = someRat(r)
		}
		put := append([]api.Rat{}, vals...)
		put[v] = valueAt(g, vals)
		wantSame(t, "Subst", valueAt(linear.Subst(f, v, g), vals), valueAt(f, put))
	})
}

// isMultiple: p is q so many times, and not 0 times.
func isMultiple(p, q poly) bool {
	if len(p) != len(q) {
		return false
	}
	for i, v := range p.vars() {
		if q.at(v).Sign() == 0 {
			return false
		}
		if i == 0 {
			continue
		}
		first := p.vars()[0]
		if product(p.at(first), q.at(v)).Cmp(product(q.at(first), p.at(v))) != 0 {
			return false
		}
	}
	return true
}

func TestP6_12OneShape(t *testing.T) {
	r := rand.New(rand.NewSource(13))
	alike := 0
	for i := range 4000 {
		f, g := lowForm(r), lowForm(r)
		if c := someRat(r); i%3 == 0 && ratIn(c).Sign() != 0 {
			g = linear.Scale(c, shuffled(r, f))
		}
		p, _ := linear.Prime(f)
		q, _ := linear.Prime(g)
		if in(p).same(in(q)) != isMultiple(in(f), in(g)) {
			t.Fatalf("Prime of %v and %v: %v and %v", in(f), in(g), in(p), in(q))
		}
		if isMultiple(in(f), in(g)) && len(in(f)) > 1 {
			alike++
		}
	}
	if alike < 300 {
		t.Fatalf("%d pairs of one shape alone", alike)
	}
}

// If all values give one value, then those do by which one variable is 1 and the others are 0. (Variables from 0 on: the others have no place in a list of values.)
func TestP6_13OneNorm(t *testing.T) {
	r := rand.New(rand.NewSource(14))
	for i := range 2000 {
		f, g := lowForm(r), lowForm(r)
		if i%2 == 0 {
			g = append(shuffled(r, f), form("0", r.Intn(4), "1", 2, "-1", 2)...)
		}
		alike := true
		for v := range 4 {
			vals := make([]api.Rat, 4)
			vals[v] = num("1")
			alike = alike && ratIn(linear.Value(f, vals)).Cmp(ratIn(linear.Value(g, vals))) == 0
		}
		if alike != in(linear.Norm(f)).same(in(linear.Norm(g))) || alike != (linear.Cmp(f, g) == 0) {
			t.Fatalf("%v and %v", in(f), in(g))
		}
		if alike {
			same(t, "Norm", linear.Norm(f), linear.Norm(g))
			vals := someVals(r)
			wantSame(t, "Value", linear.Value(f, vals), linear.Value(g, vals))
		}
	}
}

func TestP6_13Order(t *testing.T) {
	triples(func(f, g, h api.Form, x, y api.Rat) {
		c := linear.Cmp(f, g)
		if linear.Cmp(g, f) != -c || linear.Cmp(f, f) != 0 {
			t.Fatalf("the order of %v and %v", in(f), in(g))
		}
		if linear.Cmp(linear.Add(f, h), linear.Add(g, h)) != c {
			t.Fatalf("%v and %v, %v added", in(f), in(g), in(h))
		}
		if c <= 0 && linear.Cmp(g, h) <= 0 && linear.Cmp(f, h) > 0 {
			t.Fatalf("%v, %v, %v do not rise", in(f), in(g), in(h))
		}
	})
}
