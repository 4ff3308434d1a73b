package whole_test

import (
	"math"
	"math/big"
	"math/rand"
	"slices"
	"strings"
	"testing"

	"fulcrum/api"
	"fulcrum/whole"
)

type division func(a, b api.Int) (api.Int, api.Int, api.Errno)

func TestP2_1OfAndSmall(t *testing.T) {
	for _, n := range []int64{0, 1, -1, 5, -5, full, -full, 1 << 32, -1 << 32, math.MaxInt64, math.MaxInt64 - 1, math.MinInt64, math.MinInt64 + 1} {
		wantIs(t, "Of", whole.Of(n), bigOf(n))
	}
	eachInt(func(a api.Int) {
		n, ok := whole.Small(a)
		if want := in(a); want.IsInt64() != ok || ok && n != want.Int64() || !ok && n != 0 {
			t.Fatalf("Small of %v: %d, %v", a, n, ok)
		}
	})
}

func TestP2_1SmallAtItsEdges(t *testing.T) {
	for _, c := range []struct {
		s  string
		n  int64
		ok bool
	}{
		{"9223372036854775807", math.MaxInt64, true}, {"9223372036854775808", 0, false}, {"9223372036854775809", 0, false},
		{"-9223372036854775807", -math.MaxInt64, true}, {"-9223372036854775808", math.MinInt64, true}, {"-9223372036854775809", 0, false},
		{"18446744073709551615", 0, false}, {"-18446744073709551615", 0, false}, {"18446744073709551616", 0, false}, {"-18446744073709551617", 0, false},
	} {
		a := num(c.s)
		for range 3 {
			if n, ok := whole.Small(a); n != c.n || ok != c.ok {
				t.Errorf("Small of %s: %d, %v", c.s, n, ok)
			}
			a.Abs = append(a.Abs, 0)
		}
	}
}

func TestP2_1Norm(t *testing.T) {
	eachInt(func(a api.Int) { wantIs(t, "Norm", whole.Norm(a), in(a)) })
}

func TestP2_2Signs(t *testing.T) {
	eachInt(func(a api.Int) {
		n := in(a)
		wantIs(t, "Neg", whole.Neg(a), new(big.Int).Neg(n))
		wantNat(t, "Abs", whole.Abs(a), new(big.Int).Abs(n))
		if s := whole.Sign(a); s != n.Sign() {
			t.Fatalf("Sign of %v: %d", a, s)
		}
	})
}

func TestP2_2Cmp(t *testing.T) {
	eachPair(func(a, b api.Int) {
		if c := whole.Cmp(a, b); c != in(a).Cmp(in(b)) {
			t.Fatalf("Cmp of %v and %v: %d", a, b, c)
		}
	})
}

func TestP2_3Sums(t *testing.T) {
	eachPair(func(a, b api.Int) {
		x, y := in(a), in(b)
		wantIs(t, "Add", whole.Add(a, b), new(big.Int).Add(x, y))
		wantIs(t, "Sub", whole.Sub(a, b), new(big.Int).Sub(x, y))
		wantIs(t, "Mul", whole.Mul(a, b), new(big.Int).Mul(x, y))
	})
}

// floorOf is math/big's Euclidean division, put right where b is below 0 and something is left.
func floorOf(a, b *big.Int) (*big.Int, *big.Int) {
	q, r := new(big.Int).DivMod(a, b, new(big.Int))
	if b.Sign() < 0 && r.Sign() > 0 {
		q.Sub(q, bigOf(1))
		r.Add(r, b)
	}
	return q, r
}

func TestP2_4Divisions(t *testing.T) {
	check := func(name string, way division, a, b api.Int, want func(a, b *big.Int) (*big.Int, *big.Int)) {
		q, r, e := way(a, b)
		if in(b).Sign() == 0 {
			wantNothing(t, name, e, api.ErrZero, q, r)
			return
		}
		wantQ, wantR := want(in(a), in(b))
		wantErr(t, name, e, api.OK)
		wantIs(t, name, q, wantQ)
		wantIs(t, name, r, wantR)
	}
	eachPair(func(a, b api.Int) {
		check("Quo", whole.Quo, a, b, func(a, b *big.Int) (*big.Int, *big.Int) { return new(big.Int).QuoRem(a, b, new(big.Int)) })
		check("Floor", whole.Floor, a, b, floorOf)
		check("Euclid", whole.Euclid, a, b, func(a, b *big.Int) (*big.Int, *big.Int) { return new(big.Int).DivMod(a, b, new(big.Int)) })
	})
}

func TestP2_4DivisionByNought(t *testing.T) {
	for _, way := range []division{whole.Quo, whole.Floor, whole.Euclid} {
		for _, a := range edges() {
			for _, b := range []api.Int{{}, {Neg: true}, {Abs: api.Nat{0, 0}}, {Neg: true, Abs: api.Nat{0}}} {
				q, r, e := way(a, b)
				wantNothing(t, "by 0", e, api.ErrZero, q, r)
			}
		}
	}
}

// What P2.4 says of q and r, in its own words, for small numbers of all four pairs of signs.
func TestP2_4SmallDivisions(t *testing.T) {
	smallPairs(12, func(a, b int64) {
		if b == 0 {
			return
		}
		size := max(b, -b)
		for name, way := range map[string]division{"Quo": whole.Quo, "Floor": whole.Floor, "Euclid": whole.Euclid} {
			x, y, e := way(whole.Of(a), whole.Of(b))
			q, r := in(x).Int64(), in(y).Int64()
			fits := map[string]bool{"Quo": r == 0 || r > 0 == (a > 0), "Floor": r == 0 || r > 0 == (b > 0), "Euclid": r >= 0}[name]
			if e != api.OK || a != q*b+r || max(r, -r) >= size || !fits {
				t.Errorf("%s of %d and %d: %d, %d, error %d", name, a, b, q, r, e)
			}
		}
	})
}

func TestP2_5GcdAndLcm(t *testing.T) {
	eachPair(func(a, b api.Int) {
		x, y := new(big.Int).Abs(in(a)), new(big.Int).Abs(in(b))
		g := new(big.Int).GCD(nil, nil, x, y)
		wantNat(t, "Gcd", whole.Gcd(a, b), g)
		l := new(big.Int)
		if g.Sign() != 0 {
			l.Mul(x, l.Quo(y, g))
		}
		wantNat(t, "Lcm", whole.Lcm(a, b), l)
	})
}

// wantBezout holds Bezout's answer against P2.6.
func wantBezout(t *testing.T, a, b api.Int) {
	t.Helper()
	g, x, y := whole.Bezout(a, b)
	m, n := in(a), in(b)
	want := new(big.Int).GCD(nil, nil, new(big.Int).Abs(m), new(big.Int).Abs(n))
	wantNat(t, "g", g, want)
	if n.Sign() == 0 {
		wantIs(t, "x", x, bigOf(int64(m.Sign())))
		wantIs(t, "y", y, bigOf(0))
		return
	}
	sum := new(big.Int).Mul(m, in(x))
	sum.Add(sum, new(big.Int).Mul(n, in(y)))
	most := new(big.Int).Quo(new(big.Int).Abs(n), want)
	if !isNormal(x) || !isNormal(y) || sum.Cmp(want) != 0 || in(x).Sign() < 0 || in(x).Cmp(most) >= 0 {
		t.Fatalf("Bezout of %v and %v: %v, %v, %v", m, n, want, in(x), in(y))
	}
}

func TestP2_6Bezout(t *testing.T) {
	eachPair(func(a, b api.Int) { wantBezout(t, a, b) })
}

func TestP2_6BezoutOfSmallNumbers(t *testing.T) {
	smallPairs(30, func(a, b int64) { wantBezout(t, whole.Of(a), whole.Of(b)) })
}

// Long numbers, whose Gcd is 1, or long, or both of them come of Euclid's steps with given numbers, small ones and great ones.
func TestP2_6BezoutOfLongNumbers(t *testing.T) {
	r := rand.New(rand.NewSource(6))
	for i := range 60 {
		a, b, c := someInt(r, 200), someInt(r, 200), someInt(r, 100)
		wantBezout(t, a, b)
		wantBezout(t, whole.Mul(a, c), whole.Mul(b, c))
		x, y := c, someInt(r, 2)
		for range 300 {
			x, y = whole.Add(whole.Mul(x, whole.Of(1+r.Int63n(1<<(i%40)))), y), x
		}
		wantBezout(t, x, y)
		wantBezout(t, y, x)
	}
}

// One number is so much longer, or both begin with so many limbs alike, that their highest limbs tell nothing of Euclid's steps.
func TestP2_6BezoutOfUnlikeNumbers(t *testing.T) {
	long := api.Nat(slices.Repeat([]uint32{full}, 100))
	for _, n := range []int{1, 10, 40, 60, 90, 99} {
		a, b := api.Int{Abs: long}, api.Int{Neg: true, Abs: long[n:]}
		wantBezout(t, a, b)
		wantBezout(t, b, a)
		near, e := whole.Shift(whole.Of(-3), 32*n)
		wantErr(t, "Shift", e, api.OK)
		wantBezout(t, a, whole.Add(a, near))
		wantBezout(t, whole.Add(a, near), a)
		wantBezout(t, whole.Add(a, whole.Of(1)), whole.Add(b, whole.Of(int64(n))))
	}
}

func TestP2_7Inverse(t *testing.T) {
	eachPair(func(a, m api.Int) {
		x, e := whole.Inverse(a, m)
		size := new(big.Int).Abs(in(m))
		want := new(big.Int)
		if size.Sign() == 0 || size.Cmp(bigOf(1)) != 0 && want.ModInverse(in(a), size) == nil {
			wantNothing(t, "Inverse", e, api.ErrInverse, x)
			return
		}
		wantErr(t, "Inverse", e, api.OK)
		wantIs(t, "Inverse", x, want)
	})
}

// What P2.7 says in its own words: there is just one such x, or none.
func TestP2_7SmallInverses(t *testing.T) {
	smallPairs(25, func(a, m int64) {
		want, found := int64(0), false
		for x := int64(0); x < max(m, -m); x++ {
			if (a*x-1)%m == 0 {
				want, found = x, true
			}
		}
		got, e := whole.Inverse(whole.Of(a), whole.Of(m))
		if !found {
			wantNothing(t, "Inverse", e, api.ErrInverse, got)
			return
		}
		wantErr(t, "Inverse", e, api.OK)
		wantIs(t, "Inverse", got, bigOf(want))
	})
}

func TestP2_7InverseOfLongGcd(t *testing.T) {
	g := num("18446744073709551617") // its lowest 64 bits are those of 1
	x, e := whole.Inverse(g, whole.Mul(g, whole.Of(3)))
	wantNothing(t, "Inverse", e, api.ErrInverse, x)
}

// shifted is what P2.8 says, by a division down.
func shifted(a *big.Int, n int) *big.Int {
	if n >= 0 {
		return new(big.Int).Lsh(a, uint(n))
	}
	q, _ := floorOf(a, new(big.Int).Lsh(bigOf(1), uint(-n)))
	return q
}

func TestP2_8Shift(t *testing.T) {
	eachInt(func(a api.Int) {
		for _, n := range []int{-1000, -97, -96, -95, -65, -64, -63, -33, -32, -31, -2, -1, 0, 1, 31, 32, 33, 64, 100} {
			x, e := whole.Shift(a, n)
			wantErr(t, "Shift", e, api.OK)
			wantIs(t, "Shift", x, shifted(in(a), n))
		}
	})
}

// Of one bit, of that bit with the lowest one, and of all bits below it: the last bit that is shifted away counts, the first one that stays does not.
func TestP2_8ShiftOfSingleBits(t *testing.T) {
	for bit := range uint(130) {
		power := new(big.Int).Lsh(bigOf(1), bit)
		for _, n := range []*big.Int{power, new(big.Int).Add(power, bigOf(1)), new(big.Int).Sub(power, bigOf(1))} {
			for _, a := range []*big.Int{n, new(big.Int).Neg(n)} {
				for down := range 135 {
					x, e := whole.Shift(of(a), -down)
					wantErr(t, "Shift", e, api.OK)
					wantIs(t, "Shift", x, shifted(a, -down))
				}
			}
		}
	}
}

func TestP2_8ShiftAtItsLimit(t *testing.T) {
	most := new(big.Int).Lsh(bigOf(-5), api.MaxShift)
	x, e := whole.Shift(whole.Of(-5), api.MaxShift)
	wantErr(t, "Shift", e, api.OK)
	wantIs(t, "Shift", x, most)
	x, e = whole.Shift(of(most), -api.MaxShift)
	wantErr(t, "Shift", e, api.OK)
	wantIs(t, "Shift", x, bigOf(-5))
	x, e = whole.Shift(of(new(big.Int).Sub(most, bigOf(1))), -api.MaxShift)
	wantErr(t, "Shift", e, api.OK)
	wantIs(t, "Shift", x, bigOf(-6))
	for _, a := range edges() {
		for _, n := range []int{api.MaxShift + 1, -api.MaxShift - 1, math.MaxInt, math.MinInt} {
			x, e := whole.Shift(a, n)
			wantNothing(t, "Shift", e, api.ErrShift, x)
		}
	}
}

func TestP2_9Pow(t *testing.T) {
	r := rand.New(rand.NewSource(9))
	for _, a := range append(edges(), someInt(r, 9), someInt(r, 9), someInt(r, 9)) {
		for n := range 20 {
			x, e := whole.Pow(a, n)
			wantErr(t, "Pow", e, api.OK)
			wantIs(t, "Pow", x, new(big.Int).Exp(in(a), bigOf(int64(n)), nil))
		}
		for _, n := range []int{-1, -2, math.MinInt, api.MaxPow + 1, math.MaxInt} {
			x, e := whole.Pow(a, n)
			wantNothing(t, "Pow", e, api.ErrPower, x)
		}
	}
}

func TestP2_9PowAtItsLimit(t *testing.T) {
	for _, n := range []int{api.MaxPow - 1, api.MaxPow} {
		for _, a := range []int64{0, 1, -1, 3, -3} {
			x, e := whole.Pow(whole.Of(a), n)
			wantErr(t, "Pow", e, api.OK)
			wantIs(t, "Pow", x, new(big.Int).Exp(bigOf(a), bigOf(int64(n)), nil))
		}
	}
}

func TestP2_9Root(t *testing.T) {
	check := func(a api.Int) {
		x, e := whole.Root(a)
		if in(a).Sign() < 0 {
			wantNothing(t, "Root", e, api.ErrBelow, x)
			return
		}
		wantErr(t, "Root", e, api.OK)
		wantIs(t, "Root", x, new(big.Int).Sqrt(in(a)))
	}
	eachInt(func(a api.Int) {
		check(a)
		square := new(big.Int).Mul(in(a), in(a))
		for _, n := range []int64{-1, 0, 1} {
			check(of(new(big.Int).Add(square, bigOf(n))))
		}
	})
}

func TestP2_10Text(t *testing.T) {
	eachInt(func(a api.Int) {
		if s := whole.Text(a); s != in(a).String() {
			t.Fatalf("Text of %v: %q", in(a), s)
		}
	})
}

// All texts of up to four of these characters, and those that math/big takes and tells the same way are just those of numbers.
func TestP2_10ParseOfShortTexts(t *testing.T) {
	texts := []string{""}
	for range 4 {
		for _, s := range texts {
			for _, c := range "-+01 9_" {
				texts = append(texts, s+string(c))
			}
		}
		slices.Sort(texts)
		texts = slices.Compact(texts)
	}
	for _, s := range texts {
		x, e := whole.Parse(s)
		n, ok := new(big.Int).SetString(s, 10)
		if !ok || n.String() != s {
			wantNothing(t, "Parse of "+s, e, api.ErrDigit, x)
			continue
		}
		wantErr(t, "Parse of "+s, e, api.OK)
		wantIs(t, "Parse of "+s, x, n)
	}
}

func TestP2_10ParseOfWrongTexts(t *testing.T) {
	long := strings.Repeat("9", 500)
	for _, s := range []string{
		"-0", "-00", "00", "007", "-007", "+1", "+", "", "-", "--1", "-+1", "1-", "1 ", " 1", "- 1", "0x1", "1e3", "1.0", "a", "-a",
		"−1", "١", "1\x00", "\xff", "-\xff", "-" + long + "-", long + ".", "0" + long, "-0" + long, "1_000", "1\n",
	} {
		x, e := whole.Parse(s)
		wantNothing(t, "Parse of "+s, e, api.ErrDigit, x)
	}
}

func TestP2_10LongTexts(t *testing.T) {
	for _, s := range []string{strings.Repeat("9", 2000), "-" + strings.Repeat("9", 2000), "-1" + strings.Repeat("0", 3000)} {
		x, e := whole.Parse(s)
		wantErr(t, "Parse", e, api.OK)
		wantText(t, "Parse", x, s)
		if whole.Text(x) != s {
			t.Error("Text of a long number")
		}
	}
}

func TestP2_11RingWithAnOrder(t *testing.T) {
	same := func(what string, a, b api.Int) {
		t.Helper()
		if a.Neg != b.Neg || !slices.Equal(a.Abs, b.Abs) {
			t.Fatalf("%s: %v and %v", what, a, b)
		}
	}
	triples(func(a, b, c api.Int) {
		same("a + b", whole.Add(a, b), whole.Add(b, a))
		same("a b", whole.Mul(a, b), whole.Mul(b, a))
		same("a + b + c", whole.Add(whole.Add(a, b), c), whole.Add(a, whole.Add(b, c)))
		same("a b c", whole.Mul(whole.Mul(a, b), c), whole.Mul(a, whole.Mul(b, c)))
		same("a (b + c)", whole.Mul(a, whole.Add(b, c)), whole.Add(whole.Mul(a, b), whole.Mul(a, c)))
		same("a - a", whole.Sub(a, a), api.Int{})
		same("a - b", whole.Sub(a, b), whole.Add(a, whole.Neg(b)))
		order := whole.Cmp(a, b)
		if whole.Cmp(b, a) != -order || whole.Cmp(a, a) != 0 || whole.Cmp(whole.Add(a, c), whole.Add(b, c)) != order {
			t.Fatalf("the order of %v, %v and %v", a, b, c)
		}
		if whole.Sign(c) > 0 && whole.Cmp(whole.Mul(a, c), whole.Mul(b, c)) != order {
			t.Fatalf("%v and %v times %v", a, b, c)
		}
		if order <= 0 && whole.Cmp(b, c) <= 0 && whole.Cmp(a, c) > 0 {
			t.Fatalf("%v, %v, %v do not rise", a, b, c)
		}
	})
}

func TestP2_12DivisionIsUnique(t *testing.T) {
	triples(func(a, q, b api.Int) {
		r := whole.Abs(a)
		size := api.Int{Abs: whole.Abs(b)}
		if whole.Cmp(api.Int{Abs: r}, size) >= 0 {
			return
		}
		for name, way := range map[string]division{"Quo": whole.Quo, "Floor": whole.Floor, "Euclid": whole.Euclid} {
			rest := api.Int{Abs: r}
			switch name {
			case "Quo": // as a sum without a change of sign
				rest.Neg = whole.Sign(whole.Mul(q, b)) < 0
			case "Floor":
				rest.Neg = whole.Sign(b) < 0
			}
			gotQ, gotR, e := way(whole.Add(whole.Mul(q, b), rest), b)
			wantErr(t, name, e, api.OK)
			wantIs(t, name, gotQ, in(q))
			wantIs(t, name, gotR, in(rest))
		}
	})
}

func TestP2_12DivisionsAgree(t *testing.T) {
	eachPair(func(a, b api.Int) {
		if whole.Sign(a) < 0 || whole.Sign(b) <= 0 {
			return
		}
		q, r, _ := whole.Quo(a, b)
		for _, way := range []division{whole.Floor, whole.Euclid} {
			gotQ, gotR, e := way(a, b)
			wantErr(t, "a division", e, api.OK)
			wantIs(t, "q", gotQ, in(q))
			wantIs(t, "r", gotR, in(r))
		}
	})
}

func TestP2_13CommonDivisorsDivideTheGcd(t *testing.T) {
	smallPairs(40, func(a, b int64) {
		g := in(api.Int{Abs: whole.Gcd(whole.Of(a), whole.Of(b))}).Int64()
		for d := int64(1); d <= 40; d++ {
			if a%d == 0 && b%d == 0 && g%d != 0 {
				t.Errorf("%d divides %d and %d, not %d", d, a, b, g)
			}
		}
	})
	triples(func(a, b, c api.Int) {
		g := api.Int{Abs: whole.Gcd(whole.Mul(a, c), whole.Mul(b, c))}
		if _, r, e := whole.Quo(g, c); e == api.OK && whole.Sign(r) != 0 {
			t.Fatalf("%v does not divide %v", c, g)
		}
	})
}

func TestP2_14ThereAndBack(t *testing.T) {
	eachInt(func(a api.Int) {
		x, e := whole.Parse(whole.Text(a))
		wantErr(t, "Parse", e, api.OK)
		wantIs(t, "Parse", x, in(a))
		digits := whole.Text(api.Int{Abs: whole.Abs(a)})
		for _, s := range []string{"0" + digits, "-0" + digits, "+" + digits, "--" + digits, digits + " ", " " + digits} {
			x, e := whole.Parse(s)
			wantNothing(t, "Parse", e, api.ErrDigit, x)
		}
	})
}

func TestP2_15SameNumberSameNorm(t *testing.T) {
	eachPair(func(a, b api.Int) {
		x, y := whole.Norm(a), whole.Norm(b)
		alike := x.Neg == y.Neg && slices.Equal(x.Abs, y.Abs)
		if alike != (in(a).Cmp(in(b)) == 0) || alike != (whole.Cmp(a, b) == 0) {
			t.Fatalf("%v and %v", a, b)
		}
	})
}
