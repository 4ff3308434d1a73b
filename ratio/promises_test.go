package ratio_test

import (
	"math"
	"math/big"
	"slices"
	"testing"

	"fulcrum/api"
	"fulcrum/ratio"
	"fulcrum/whole"
)

func TestY1Norm(t *testing.T) {
	eachRat(func(r api.Rat) { wantIs(t, "Norm", ratio.Norm(r), in(r)) })
	eachPair(func(a, b api.Rat) { wantIs(t, "Norm", ratio.Norm(a), in(a)) })
}

func TestY1NoDenIsNought(t *testing.T) {
	for _, den := range noughts() {
		for _, n := range []api.Int{{}, {Neg: true}, whole.Of(5), whole.Of(-5), {Neg: true, Abs: api.Nat{0, 0, 7}}} {
			got := ratio.Norm(api.Rat{Num: n, Den: den})
			if got.Num.Neg || len(got.Num.Abs) != 0 || !slices.Equal(got.Den, api.Nat{1}) {
				t.Errorf("Norm of %v without a Den: %v", n, got)
			}
		}
	}
}

func TestY1Of(t *testing.T) {
	eachPair(func(a, b api.Rat) {
		r, e := ratio.Of(a.Num, b.Num)
		if den := intIn(b.Num); den.Sign() != 0 {
			wantMade(t, "Of", r, e, new(big.Rat).SetFrac(intIn(a.Num), den), api.OK)
		} else {
			wantMade(t, "Of", r, e, nil, api.ErrZero)
		}
	})
	for _, den := range noughts() {
		for _, below := range []bool{false, true} {
			for _, n := range []int64{0, 1, -1} {
				r, e := ratio.Of(whole.Of(n), api.Int{Neg: below, Abs: den})
				wantMade(t, "Of by 0", r, e, nil, api.ErrZero)
			}
		}
	}
}

func TestY1Whole(t *testing.T) {
	for _, n := range []int64{0, 1, -1, 7, -7, full, 1 << 32, -1 << 32, math.MaxInt64, math.MinInt64, math.MinInt64 + 1} {
		wantIs(t, "Whole", ratio.Whole(n), big.NewRat(n, 1))
	}
}

func TestY2OfOneNumber(t *testing.T) {
	eachRat(func(r api.Rat) {
		x := in(r)
		if s := ratio.Sign(r); s != x.Sign() {
			t.Fatalf("Sign of %v: %d", x, s)
		}
		wantIs(t, "Neg", ratio.Neg(r), new(big.Rat).Neg(x))
		wantIs(t, "Abs", ratio.Abs(r), new(big.Rat).Abs(x))
		got, e := ratio.Inv(r)
		if x.Sign() == 0 {
			wantMade(t, "Inv", got, e, nil, api.ErrZero)
		} else {
			wantMade(t, "Inv", got, e, new(big.Rat).Inv(x), api.OK)
		}
	})
}

func TestY2OfTwoNumbers(t *testing.T) {
	eachPair(func(a, b api.Rat) {
		x, y := in(a), in(b)
		if c := ratio.Cmp(a, b); c != x.Cmp(y) {
			t.Fatalf("Cmp of %v and %v: %d", x, y, c)
		}
		wantIs(t, "Add", ratio.Add(a, b), new(big.Rat).Add(x, y))
		wantIs(t, "Sub", ratio.Sub(a, b), new(big.Rat).Sub(x, y))
		wantIs(t, "Mul", ratio.Mul(a, b), new(big.Rat).Mul(x, y))
		got, e := ratio.Div(a, b)
		if y.Sign() == 0 {
			wantMade(t, "Div", got, e, nil, api.ErrZero)
		} else {
			wantMade(t, "Div", got, e, new(big.Rat).Quo(x, y), api.OK)
		}
	})
}

func TestY2DividedByNought(t *testing.T) {
	for _, a := range edges() {
		for _, nought := range []api.Rat{{}, {Num: whole.Of(3)}, {Num: whole.Of(-3), Den: api.Nat{0}}, {Den: api.Nat{1}}, {Num: api.Int{Neg: true, Abs: api.Nat{0}}, Den: api.Nat{4}}} {
			r, e := ratio.Div(a, nought)
			wantMade(t, "Div by 0", r, e, nil, api.ErrZero)
			r, e = ratio.Inv(nought)
			wantMade(t, "Inv of 0", r, e, nil, api.ErrZero)
		}
	}
}

func TestY2FloorAndCeil(t *testing.T) {
	eachRat(func(r api.Rat) {
		x := in(r)
		wantInt(t, "Floor", ratio.Floor(r), floorOf(x))
		up := floorOf(new(big.Rat).Neg(x))
		wantInt(t, "Ceil", ratio.Ceil(r), up.Neg(up))
	})
}

// On both sides of 0, at whole numbers and beside them, in the promise's own words.
func TestY2FloorAndCeilOfSmallNumbers(t *testing.T) {
	eachSmall(4, 6, func(r *big.Rat) {
		down, up := int64(-5), int64(5)
		for n := int64(-5); n <= 5; n++ {
			if big.NewRat(n, 1).Cmp(r) <= 0 {
				down = n
			}
			if big.NewRat(-n, 1).Cmp(r) >= 0 {
				up = -n
			}
		}
		wantInt(t, "Floor", ratio.Floor(of(r)), bigOf(down))
		wantInt(t, "Ceil", ratio.Ceil(of(r)), bigOf(up))
	})
}

func same(t *testing.T, what string, a, b api.Rat) {
	t.Helper()
	if a.Num.Neg != b.Num.Neg || !slices.Equal(a.Num.Abs, b.Num.Abs) || !slices.Equal(a.Den, b.Den) {
		t.Fatalf("%s: %v and %v", what, a, b)
	}
}

func TestY9Field(t *testing.T) {
	triples(func(a, b, c api.Rat) {
		same(t, "a + b", ratio.Add(a, b), ratio.Add(b, a))
		same(t, "a b", ratio.Mul(a, b), ratio.Mul(b, a))
		same(t, "a + b + c", ratio.Add(ratio.Add(a, b), c), ratio.Add(a, ratio.Add(b, c)))
		same(t, "a b c", ratio.Mul(ratio.Mul(a, b), c), ratio.Mul(a, ratio.Mul(b, c)))
		same(t, "a (b + c)", ratio.Mul(a, ratio.Add(b, c)), ratio.Add(ratio.Mul(a, b), ratio.Mul(a, c)))
		same(t, "a + 0", ratio.Add(a, api.Rat{}), ratio.Norm(a))
		same(t, "a 1", ratio.Mul(a, ratio.Whole(1)), ratio.Norm(a))
		same(t, "a - a", ratio.Add(a, ratio.Neg(a)), ratio.Whole(0))
		same(t, "a - b", ratio.Sub(a, b), ratio.Add(a, ratio.Neg(b)))
		if inv, e := ratio.Inv(a); e == api.OK {
			same(t, "a / a", ratio.Mul(a, inv), ratio.Whole(1))
			quotient, _ := ratio.Div(b, a)
			same(t, "b / a", quotient, ratio.Mul(b, inv))
		}
	})
}

func TestY9Order(t *testing.T) {
	triples(func(a, b, c api.Rat) {
		order := ratio.Cmp(a, b)
		if ratio.Cmp(b, a) != -order || ratio.Cmp(a, a) != 0 || ratio.Cmp(ratio.Add(a, c), ratio.Add(b, c)) != order {
			t.Fatalf("the order of %v, %v and %v", a, b, c)
		}
		if ratio.Sign(c) > 0 && ratio.Cmp(ratio.Mul(a, c), ratio.Mul(b, c)) != order {
			t.Fatalf("%v and %v times %v", a, b, c)
		}
		if order <= 0 && ratio.Cmp(b, c) <= 0 && ratio.Cmp(a, c) > 0 {
			t.Fatalf("%v, %v, %v do not rise", a, b, c)
		}
		if ratio.Sign(ratio.Sub(a, b)) != order {
			t.Fatalf("%v less %v", a, b)
		}
	})
}

func TestY9FloorIsJustBelow(t *testing.T) {
	eachRat(func(r api.Rat) {
		down, e := ratio.Of(ratio.Floor(r), whole.Of(1))
		wantErr(t, "Of", e, api.OK)
		if ratio.Cmp(down, r) > 0 || ratio.Cmp(down, ratio.Sub(r, ratio.Whole(1))) <= 0 {
			t.Fatalf("Floor of %v: %v", r, down)
		}
	})
}

func TestY9ParseOfText(t *testing.T) {
	eachRat(func(r api.Rat) {
		same(t, "Parse of Text", parsed(t, ratio.Text(r)), ratio.Norm(r))
	})
}
