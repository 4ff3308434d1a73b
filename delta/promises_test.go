package delta_test

import (
	"math/big"
	"math/rand"
	"testing"

	"fulcrum/api"
	"fulcrum/delta"
	"fulcrum/ratio"
)

func nothing() *big.Rat { return new(big.Rat) }

func TestD1OfOneNumber(t *testing.T) {
	zero := pair{nothing(), nothing()}
	eachNumber(func(d api.Delta) {
		p := in(d)
		wantIs(t, "Norm", delta.Norm(d), p.a, p.b)
		wantIs(t, "Of", delta.Of(d.A), p.a, nothing())
		wantIs(t, "Neg", delta.Neg(d), opposite(p.a), opposite(p.b))
		if s := delta.Sign(d); s != p.cmp(zero) {
			t.Fatalf("Sign of %v: %d", p, s)
		}
	})
}

func TestD1OfTwoNumbers(t *testing.T) {
	eachPair(func(a, b api.Delta) {
		p, q := in(a), in(b)
		if c := delta.Cmp(a, b); c != p.cmp(q) {
			t.Fatalf("Cmp of %v and %v: %d", p, q, c)
		}
		wantIs(t, "Add", delta.Add(a, b), sum(p.a, q.a), sum(p.b, q.b))
		wantIs(t, "Sub", delta.Sub(a, b), less(p.a, q.a), less(p.b, q.b))
	})
}

// The A decides; where the A are the same, on either side of 0, the B does.
func TestD1TheOrderAtItsEdges(t *testing.T) {
	rising := []api.Delta{
		number("-3", "1000000"), number("-5/2", "-1"), number("-5/2", "0"), number("-5/2", "1/9"), number("-1/1000000000000", "5"),
		number("0", "-2"), number("0", "-1/9"), number("0", "0"), number("0", "1/9"), number("0", "2"),
		number("1/1000000000000", "-99999999999999999999"), number("299/100", "7"), number("3", "-1"), number("3", "0"), number("3", "1"), number("4", "-1000"),
	}
	for i, a := range rising {
		want := -1
		if i >= 7 {
			want = i - 7
		}
		if s := delta.Sign(a); s != min(want, 1) {
			t.Errorf("Sign of %v: %d", in(a), s)
		}
		for j, b := range rising {
			if c := delta.Cmp(a, b); c != max(-1, min(i-j, 1)) {
				t.Errorf("Cmp of %v and %v: %d", in(a), in(b), c)
			}
		}
	}
}

func TestD1NoughtIsNought(t *testing.T) {
	for _, a := range zeros() {
		for _, b := range zeros() {
			d := api.Delta{A: a, B: b}
			if delta.Sign(d) != 0 || delta.Cmp(d, api.Delta{}) != 0 || delta.Cmp(api.Delta{}, d) != 0 {
				t.Errorf("%v is not 0", d)
			}
			for what, got := range map[string]api.Delta{"Norm": delta.Norm(d), "Of": delta.Of(a), "Neg": delta.Neg(d), "Add": delta.Add(d, d), "Sub": delta.Sub(d, d), "Scale": delta.Scale(num("-2"), d)} {
				wantIs(t, what, got, nothing(), nothing())
			}
			wantRat(t, "At", delta.At(d, num("7")), nothing())
		}
	}
}

// By 0 and by what is read as 0, by numbers below 0, above it, and not in lowest terms.
func TestD1ScaleAndD2At(t *testing.T) {
	eachPair(func(a, b api.Delta) {
		p, c := in(a), ratIn(b.A)
		wantIs(t, "Scale", delta.Scale(b.A, a), product(c, p.a), product(c, p.b))
		wantRat(t, "At", delta.At(a, b.A), sum(p.a, product(p.b, c)))
	})
	for _, d := range []api.Delta{number("3", "-1"), number("-1/2", "1/3"), number("0", "2"), number("5", "0")} {
		for _, zero := range zeros() {
			wantIs(t, "Scale by 0", delta.Scale(zero, d), nothing(), nothing())
			wantRat(t, "At 0", delta.At(d, zero), in(d).a)
		}
		for _, s := range []string{"-1", "-2/3", "1", "7/2"} {
			wantIs(t, "Scale", delta.Scale(num(s), d), product(bigNum(s), in(d).a), product(bigNum(s), in(d).b))
			wantRat(t, "At", delta.At(d, num(s)), in(d).at(bigNum(s)))
		}
	}
}

// triples are for the laws of three numbers, with two rational ones.
func triples(do func(a, b, c api.Delta, x, y api.Rat)) {
	l := []api.Delta{{}, number("1", "0"), number("1", "-1"), number("0", "1"), number("-7/3", "5/2"), {A: otherwise(num("-3/2")), B: api.Rat{Num: num("5").Num}}}
	for i, a := range l {
		for j, b := range l {
			for k, c := range l {
				do(a, b, c, edges()[(i+6*j+3*k)%len(edges())], edges()[(5*i+j+7*k)%len(edges())])
			}
		}
	}
	r := rand.New(rand.NewSource(3))
	for i := range 700 {
		a, b, c := someNumber(r), someNumber(r), someNumber(r)
		if i%2 == 0 {
			b.A = otherwise(a.A)
		}
		do(a, b, c, someRat(r, 3), smallRat(r))
	}
}

func TestD5VectorSpace(t *testing.T) {
	triples(func(a, b, c api.Delta, x, y api.Rat) {
		same(t, "a + b", delta.Add(a, b), delta.Add(b, a))
		same(t, "a + b + c", delta.Add(delta.Add(a, b), c), delta.Add(a, delta.Add(b, c)))
		same(t, "a + 0", delta.Add(a, api.Delta{}), delta.Norm(a))
		same(t, "a - a", delta.Add(a, delta.Neg(a)), delta.Of(api.Rat{}))
		same(t, "a - b", delta.Sub(a, b), delta.Add(a, delta.Neg(b)))
		same(t, "1 a", delta.Scale(ratio.Whole(1), a), delta.Norm(a))
		same(t, "(-1) a", delta.Scale(ratio.Whole(-1), a), delta.Neg(a))
		same(t, "x (y a)", delta.Scale(x, delta.Scale(y, a)), delta.Scale(ratio.Mul(x, y), a))
		same(t, "x (a + b)", delta.Scale(x, delta.Add(a, b)), delta.Add(delta.Scale(x, a), delta.Scale(x, b)))
		same(t, "(x + y) a", delta.Scale(ratio.Add(x, y), a), delta.Add(delta.Scale(x, a), delta.Scale(y, a)))
	})
}

func TestD5Order(t *testing.T) {
	triples(func(a, b, c api.Delta, x, y api.Rat) {
		order := delta.Cmp(a, b)
		if delta.Cmp(b, a) != -order || delta.Cmp(a, a) != 0 || delta.Sign(delta.Sub(a, b)) != order {
			t.Fatalf("the order of %v and %v", a, b)
		}
		if delta.Cmp(delta.Add(a, c), delta.Add(b, c)) != order {
			t.Fatalf("%v and %v, %v added", a, b, c)
		}
		if delta.Cmp(delta.Scale(x, a), delta.Scale(x, b)) != order*ratio.Sign(x) {
			t.Fatalf("%v and %v times %v", a, b, x)
		}
		if order <= 0 && delta.Cmp(b, c) <= 0 && delta.Cmp(a, c) > 0 {
			t.Fatalf("%v, %v, %v do not rise", a, b, c)
		}
	})
}

// Up to where two numbers meet At tells their order; Small tells where that is at the earliest.
func TestD5AtTellsTheOrder(t *testing.T) {
	eachPair(func(a, b api.Delta) {
		order := delta.Cmp(a, b)
		if order > 0 {
			a, b = b, a
		}
		e, code := delta.Small([]api.Gap{{Lo: a, Hi: b}})
		wantErr(t, "Small", code, api.OK)
		for _, part := range []string{"1/2", "1/3", "999/1000", "1/1000000000000"} {
			amount := ratio.Mul(e, num(part))
			if c := ratio.Cmp(delta.At(a, amount), delta.At(b, amount)); c != -max(order, -order) {
				t.Fatalf("%v and %v at %v: %d", in(a), in(b), ratIn(amount), c)
			}
		}
	})
}

func TestD5ParseOfText(t *testing.T) {
	eachNumber(func(d api.Delta) {
		same(t, "Parse of Text", parsed(t, delta.Text(d)), delta.Norm(d))
	})
}
