package nat_test

import (
	"math"
	"math/big"
	"math/rand"
	"slices"
	"strconv"
	"strings"
	"testing"

	"fulcrum/api"
	"fulcrum/nat"
)

func TestN1Norm(t *testing.T) {
	for _, a := range edges() {
		for range 3 {
			wantBig(t, "Norm", nat.Norm(a), bigOf(a))
			a = append(slices.Clone(a), 0)
		}
	}
}

func TestN1OfAndSmall(t *testing.T) {
	for _, n := range []uint64{0, 1, 2, full - 1, full, 1 << 32, 1<<32 + 1, 1 << 63, 1<<63 - 1, math.MaxUint64 - 1, math.MaxUint64} {
		a := nat.Of(n)
		wantBig(t, "Of", a, new(big.Int).SetUint64(n))
		for range 3 {
			if m, ok := nat.Small(a); m != n || !ok {
				t.Errorf("Small of Of(%d): %d, %v", n, m, ok)
			}
			a = append(a, 0)
		}
	}
	for _, a := range []api.Nat{{0, 0, 1}, {full, full, 1}, {5, 0, 0, 1, 0}, {0, 0, full}} {
		if n, ok := nat.Small(a); n != 0 || ok {
			t.Errorf("Small of %x: %d, %v", []uint32(a), n, ok)
		}
	}
}

func TestN2CmpAddSubMul(t *testing.T) {
	eachPair(func(a, b api.Nat) {
		x, y := bigOf(a), bigOf(b)
		if c := nat.Cmp(a, b); c != x.Cmp(y) {
			t.Fatalf("Cmp of %x and %x: %d", []uint32(a), []uint32(b), c)
		}
		wantBig(t, "Add", nat.Add(a, b), new(big.Int).Add(x, y))
		wantBig(t, "Mul", nat.Mul(a, b), new(big.Int).Mul(x, y))
		d, e := nat.Sub(a, b)
		if x.Cmp(y) < 0 {
			wantErr(t, "Sub", e, api.ErrBelow)
			wantNat(t, "Sub beside an error", d, nil)
			return
		}
		wantErr(t, "Sub", e, api.OK)
		wantBig(t, "Sub", d, new(big.Int).Sub(x, y))
	})
}

func TestN2CarriesThroughAllLimbs(t *testing.T) {
	ones := api.Nat{full, full, full, full}
	high := api.Nat{0, 0, 0, 0, 1}
	wantNat(t, "Add", nat.Add(ones, api.Nat{1}), high)
	wantNat(t, "Add", nat.Add(api.Nat{1}, ones), high)
	wantNat(t, "Sub", must(nat.Sub(high, api.Nat{1})), ones)
	wantNat(t, "Sub", must(nat.Sub(high, high)), nil)
	wantNat(t, "Mul", nat.Mul(ones, ones), api.Nat{1, 0, 0, 0, full - 1, full, full, full})
}

// The lengths lie on both sides of that from which on products are made of halves, and are as unlike as can be.
func TestN2LongProducts(t *testing.T) {
	r := rand.New(rand.NewSource(3))
	lengths := []int{1, 2, 63, 64, 65, 127, 128, 129, 130, 200, 257, 700}
	for _, n := range lengths {
		for _, m := range lengths {
			a, b := make(api.Nat, n), make(api.Nat, m)
			for _, fill := range []func() uint32{r.Uint32, func() uint32 { return full }} {
				for i := range a {
					a[i] = fill()
				}
				for i := range b {
					b[i] = fill()
				}
				wantBig(t, "Mul", nat.Mul(a, b), new(big.Int).Mul(bigOf(a), bigOf(b)))
			}
		}
	}
}

func TestN2Div(t *testing.T) {
	eachPair(func(a, b api.Nat) {
		q, r, e := nat.Div(a, b)
		x, y := bigOf(a), bigOf(b)
		if y.Sign() == 0 {
			wantErr(t, "Div by 0", e, api.ErrZero)
			wantNat(t, "q beside an error", q, nil)
			wantNat(t, "r beside an error", r, nil)
			return
		}
		wantErr(t, "Div", e, api.OK)
		wantQ, wantR := new(big.Int).QuoRem(x, y, new(big.Int))
		wantBig(t, "q", q, wantQ)
		wantBig(t, "r", r, wantR)
	})
}

// Dividends at which a limb of the quotient is easily guessed too high: multiples of the divisor, and one below them.
func TestN2DivAtMultiples(t *testing.T) {
	eachPair(func(a, b api.Nat) {
		if nat.Cmp(b, nil) == 0 {
			return
		}
		p := nat.Mul(a, b)
		q, r, _ := nat.Div(p, b)
		wantNat(t, "q of a multiple", q, nat.Norm(a))
		wantNat(t, "r of a multiple", r, nil)
		less, e := nat.Sub(p, api.Nat{1})
		if e != api.OK {
			return
		}
		q, r, _ = nat.Div(less, b)
		wantNat(t, "q one below", q, must(nat.Sub(a, api.Nat{1})))
		wantNat(t, "r one below", r, must(nat.Sub(b, api.Nat{1})))
	})
}

// Here the two highest limbs of the divisor guess one too much, so that it has to be added back.
func TestN2DivWhereTheGuessIsTooHigh(t *testing.T) {
	for _, c := range []struct{ a, b, q, r string }{
		{"80000000000000032000000020000000", "8000000000000003fffffffe", "ffffffff", "7fffffff200000061ffffffe"},
		{"fffffffe7fffffff8000000000000000", "7ffffffffffffffffffffffe", "1fffffffc", "7fffffff80000003fffffff8"},
		{"200000002fffffffe00000001", "27ffffffffffffffe", "cccccccd", "27fffffff9999999b"},
		{"3000000030000000080000000", "800000008000000080000000", "5", "800000007ffffffe00000000"},
		{"320000000000000007fffffff", "200000000000000020000000", "18", "1ffffffffffffffd7fffffff"},
	} {
		q, r, e := nat.Div(hex(c.a), hex(c.b))
		wantErr(t, "Div", e, api.OK)
		wantNat(t, "q of "+c.a, q, hex(c.q))
		wantNat(t, "r of "+c.a, r, hex(c.r))
	}
}

func TestN3Gcd(t *testing.T) {
	eachPair(func(a, b api.Nat) {
		want := new(big.Int).GCD(nil, nil, bigOf(a), bigOf(b))
		wantBig(t, "Gcd", nat.Gcd(a, b), want)
		wantBig(t, "Gcd the other way round", nat.Gcd(b, a), want)
	})
	for _, a := range edges() {
		wantNat(t, "Gcd of 0", nat.Gcd(api.Nat{0, 0}, a), nat.Norm(a))
		wantNat(t, "Gcd with 0", nat.Gcd(a, nil), nat.Norm(a))
		wantNat(t, "Gcd with itself", nat.Gcd(a, a), nat.Norm(a))
	}
	wantNat(t, "Gcd of 0 and 0", nat.Gcd(api.Nat{0}, nil), nil)
}

// Fibonacci's numbers need the most of Euclid's steps.
func TestN3GcdOfFibonacci(t *testing.T) {
	a, b := nat.Of(0), nat.Of(1)
	c := hex("123456789abcdef0123456789abcdef")
	for range 2000 {
		wantNat(t, "Gcd", nat.Gcd(a, b), api.Nat{1})
		a, b = b, nat.Add(a, b)
	}
	wantNat(t, "Gcd", nat.Gcd(nat.Mul(a, c), nat.Mul(b, c)), c)
}

func TestN4Bits(t *testing.T) {
	eachNat(func(a api.Nat) {
		x := bigOf(a)
		n := nat.Bits(a)
		if n != x.BitLen() {
			t.Fatalf("Bits of %x: %d", []uint32(a), n)
		}
		for _, i := range []int{math.MinInt, -33, -32, -1, n, n + 1, n + 31, n + 32, n + 64, math.MaxInt} {
			if nat.Bit(a, i) {
				t.Fatalf("Bit %d of %x", i, []uint32(a))
			}
		}
		for i := range min(n, 200) {
			if nat.Bit(a, i) != (x.Bit(i) == 1) {
				t.Fatalf("Bit %d of %x", i, []uint32(a))
			}
		}
	})
}

func TestN5Shift(t *testing.T) {
	by := []int{0, 1, 2, 31, 32, 33, 63, 64, 65, 95, 96, 97, 160, 1000}
	for _, a := range edges() {
		for _, n := range by {
			wantBig(t, "Shift up", must(nat.Shift(a, n)), new(big.Int).Lsh(bigOf(a), uint(n)))
			wantBig(t, "Shift down", must(nat.Shift(a, -n)), new(big.Int).Rsh(bigOf(a), uint(n)))
		}
	}
}

func TestN5ShiftAtItsLimit(t *testing.T) {
	up := must(nat.Shift(api.Nat{5}, api.MaxShift))
	wantBig(t, "Shift by MaxShift", up, new(big.Int).Lsh(big.NewInt(5), 1<<20))
	wantNat(t, "Shift by -MaxShift", must(nat.Shift(up, -api.MaxShift)), api.Nat{5})
	wantNat(t, "Shift of 1 by -MaxShift", must(nat.Shift(api.Nat{1}, -api.MaxShift)), nil)
	wantNat(t, "Shift of 0 by MaxShift", must(nat.Shift(api.Nat{0, 0}, api.MaxShift)), nil)
	for _, n := range []int{api.MaxShift + 1, -api.MaxShift - 1, math.MaxInt, math.MinInt} {
		for _, a := range []api.Nat{nil, {1}, {full, full}} {
			x, e := nat.Shift(a, n)
			wantErr(t, "Shift too far", e, api.ErrShift)
			wantNat(t, "beside an error", x, nil)
		}
	}
}

func TestN5Pow(t *testing.T) {
	for _, a := range edges() {
		for n := range 20 {
			wantBig(t, "Pow", must(nat.Pow(a, n)), new(big.Int).Exp(bigOf(a), big.NewInt(int64(n)), nil))
		}
	}
	for _, n := range []int{63, 64, 65, 255, 256, 1000, 4095} {
		for _, a := range []api.Nat{{3}, {full}, {7, 1, 0}} {
			wantBig(t, "Pow", must(nat.Pow(a, n)), new(big.Int).Exp(bigOf(a), big.NewInt(int64(n)), nil))
		}
	}
}

func TestN5PowAtItsLimit(t *testing.T) {
	wantNat(t, "2 to MaxPow", must(nat.Pow(api.Nat{2, 0}, api.MaxPow)), must(nat.Shift(api.Nat{1}, api.MaxPow)))
	wantNat(t, "1 to MaxPow", must(nat.Pow(api.Nat{1}, api.MaxPow)), api.Nat{1})
	wantNat(t, "0 to MaxPow", must(nat.Pow(api.Nat{0}, api.MaxPow)), nil)
	wantBig(t, "Pow", must(nat.Pow(api.Nat{full}, api.MaxPow)), new(big.Int).Exp(big.NewInt(full), big.NewInt(4096), nil))
	for _, n := range []int{-1, api.MaxPow + 1, math.MaxInt, math.MinInt} {
		for _, a := range []api.Nat{nil, {1}, {2}} {
			x, e := nat.Pow(a, n)
			wantErr(t, "Pow", e, api.ErrPower)
			wantNat(t, "beside an error", x, nil)
		}
	}
}

func TestN5Root(t *testing.T) {
	r := 0
	for n := range 5000 {
		if (r+1)*(r+1) <= n {
			r++
		}
		wantNat(t, "Root of "+strconv.Itoa(n), nat.Root(api.Nat{uint32(n), 0}), nat.Of(uint64(r)))
	}
	eachNat(func(a api.Nat) {
		wantBig(t, "Root", nat.Root(a), new(big.Int).Sqrt(bigOf(a)))
	})
}

func TestN5RootAtSquares(t *testing.T) {
	eachNat(func(a api.Nat) {
		square := nat.Mul(a, a)
		wantNat(t, "Root of a square", nat.Root(square), nat.Norm(a))
		wantNat(t, "Root above a square", nat.Root(nat.Add(square, nat.Add(a, a))), nat.Norm(a))
		if below, e := nat.Sub(square, api.Nat{1}); e == api.OK {
			wantNat(t, "Root below a square", nat.Root(below), must(nat.Sub(a, api.Nat{1})))
		}
	})
}

func TestN6Text(t *testing.T) {
	eachNat(func(a api.Nat) {
		x := bigOf(a)
		for base := 2; base <= 16; base++ {
			s, e := nat.Text(a, base)
			if want := x.Text(base); s != want || e != api.OK {
				t.Fatalf("Text of %x in base %d: %q, %d", []uint32(a), base, s, e)
			}
		}
	})
}

// A power of the base, and one below it: where the digits get one more.
func TestN6TextAtPowers(t *testing.T) {
	for base := 2; base <= 16; base++ {
		for n := range 130 {
			power := must(nat.Pow(nat.Of(uint64(base)), n))
			if s, _ := nat.Text(power, base); s != "1"+strings.Repeat("0", n) {
				t.Fatalf("Text of %d to the %d: %s", base, n, s)
			}
			want := "0"
			if n > 0 {
				want = strings.Repeat(string("0123456789abcdef"[base-1]), n)
			}
			if s, _ := nat.Text(must(nat.Sub(power, api.Nat{1})), base); s != want {
				t.Fatalf("Text of %d to the %d, less 1: %s", base, n, s)
			}
		}
	}
}

func TestN6OtherBases(t *testing.T) {
	for _, base := range []int{math.MinInt, -10, -2, -1, 0, 1, 17, 36, math.MaxInt} {
		for _, a := range []api.Nat{nil, {1}, {full, full}} {
			s, e := nat.Text(a, base)
			if s != "" || e != api.ErrBase {
				t.Errorf("Text in base %d: %q, %d", base, s, e)
			}
		}
		for _, s := range []string{"1", "0", "", "x", "01"} {
			x, e := nat.Parse(s, base)
			wantErr(t, "Parse in another base", e, api.ErrBase)
			wantNat(t, "beside an error", x, nil)
		}
	}
}

// All texts of up to three characters, good and bad ones, in all bases.
func TestN6ParseOfShortTexts(t *testing.T) {
	const signs = "0123456789abcdefgAF+-_. \x00/:`@"
	texts := []string{""}
	for first := 0; len(texts) < 20000; first++ {
		for i := range len(signs) {
			texts = append(texts, texts[first]+signs[i:i+1])
		}
	}
	for base := 2; base <= 16; base++ {
		for _, s := range texts {
			wantParse(t, s, base)
		}
	}
}

// wantParse: what is no text of digits below the base, or has a needless nought ahead, is refused.
func wantParse(t *testing.T, s string, base int) {
	t.Helper()
	good := s != "" && (s == "0" || s[0] != '0') && strings.Trim(s, "0123456789abcdef"[:base]) == ""
	x, e := nat.Parse(s, base)
	if !good {
		if e != api.ErrDigit || len(x) != 0 {
			t.Fatalf("Parse of %q in base %d: %x, %d", s, base, []uint32(x), e)
		}
		return
	}
	want, err := strconv.ParseUint(s, base, 64)
	if err != nil || e != api.OK || !same(x, nat.Of(want)) {
		t.Fatalf("Parse of %q in base %d: %x, %d", s, base, []uint32(x), e)
	}
}

func TestN6ParseOfWrongTexts(t *testing.T) {
	long := strings.Repeat("7", 5000)
	for _, s := range []string{"", " ", "00", "01", "-1", "+1", "1 ", " 1", "1_0", "0x1", "FF", "aF", "é", "\xff", "1\x00", "٣", "１",
		"0" + long, long + "A", long[:2500] + " " + long, "g" + long, long + "\n"} {
		x, e := nat.Parse(s, 16)
		wantErr(t, "Parse of "+strconv.Quote(s), e, api.ErrDigit)
		wantNat(t, "beside an error", x, nil)
	}
}

func TestN6ParseOfLongTexts(t *testing.T) {
	r := rand.New(rand.NewSource(5))
	for _, n := range []int{7, 8, 9, 10, 17, 18, 19, 20, 31, 32, 36, 37, 62, 63, 500, 5000, 20000} {
		for _, base := range []int{2, 3, 8, 10, 15, 16} {
			text := make([]byte, n)
			for i := range text {
				text[i] = "0123456789abcdef"[r.Intn(base)]
			}
			text[0] = '1'
			want, _ := new(big.Int).SetString(string(text), base)
			wantBig(t, "Parse", must(nat.Parse(string(text), base)), want)
		}
	}
}

func TestN7Semiring(t *testing.T) {
	r := rand.New(rand.NewSource(7))
	eachPair(func(a, b api.Nat) {
		c := someNat(r, 8)
		wantNat(t, "a + b", nat.Add(a, b), nat.Add(b, a))
		wantNat(t, "a b", nat.Mul(a, b), nat.Mul(b, a))
		wantNat(t, "(a + b) + c", nat.Add(nat.Add(a, b), c), nat.Add(a, nat.Add(b, c)))
		wantNat(t, "(a b) c", nat.Mul(nat.Mul(a, b), c), nat.Mul(a, nat.Mul(b, c)))
		wantNat(t, "(a + b) c", nat.Mul(nat.Add(a, b), c), nat.Add(nat.Mul(a, c), nat.Mul(b, c)))
		wantNat(t, "a + 0", nat.Add(a, nil), nat.Norm(a))
		wantNat(t, "1 a", nat.Mul(api.Nat{1, 0}, a), nat.Norm(a))
		wantNat(t, "0 a", nat.Mul(api.Nat{0}, a), nil)
		wantNat(t, "a + b - b", must(nat.Sub(nat.Add(a, b), b)), nat.Norm(a))
		if nat.Cmp(a, b) != -nat.Cmp(b, a) || nat.Cmp(nat.Add(a, c), nat.Add(b, c)) != nat.Cmp(a, b) {
			t.Fatalf("order of %x, %x, %x", []uint32(a), []uint32(b), []uint32(c))
		}
	})
}

func TestN7DivAndGcd(t *testing.T) {
	r := rand.New(rand.NewSource(8))
	eachPair(func(a, b api.Nat) {
		g := nat.Gcd(a, b)
		if len(g) == 0 {
			return
		}
		_, left, _ := nat.Div(a, g)
		wantNat(t, "a modulo Gcd", left, nil)
		_, left, _ = nat.Div(b, g)
		wantNat(t, "b modulo Gcd", left, nil)
		c := nat.Add(someNat(r, 3), api.Nat{1})
		wantNat(t, "Gcd of a c and b c", nat.Gcd(nat.Mul(a, c), nat.Mul(b, c)), nat.Mul(g, c))
		if nat.Cmp(b, nil) == 0 {
			return
		}
		q, left, _ := nat.Div(a, b)
		wantNat(t, "q b + r", nat.Add(nat.Mul(q, b), left), nat.Norm(a))
		if nat.Cmp(left, b) >= 0 {
			t.Fatalf("r of %x by %x: %x", []uint32(a), []uint32(b), []uint32(left))
		}
	})
}

func TestN7ShiftAndPow(t *testing.T) {
	for _, a := range edges() {
		for n := range 100 {
			two := must(nat.Pow(api.Nat{2}, n))
			wantNat(t, "Shift by n", must(nat.Shift(a, n)), nat.Mul(a, two))
			q, _, _ := nat.Div(a, two)
			wantNat(t, "Shift by -n", must(nat.Shift(a, -n)), q)
		}
		for m := range 12 {
			for n := range 12 {
				wantNat(t, "Pow of m + n", must(nat.Pow(a, m+n)), nat.Mul(must(nat.Pow(a, m)), must(nat.Pow(a, n))))
			}
		}
	}
}

func TestN7ThereAndBack(t *testing.T) {
	eachNat(func(a api.Nat) {
		for base := 2; base <= 16; base++ {
			s, _ := nat.Text(a, base)
			x := must(nat.Parse(s, base))
			wantNat(t, "Parse of Text", x, nat.Norm(a))
			if again, _ := nat.Text(x, base); again != s {
				t.Fatalf("Text of Parse of %q: %q", s, again)
			}
		}
	})
}
