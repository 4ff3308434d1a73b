package ratio_test

import (
	"math"
	"math/big"
	"regexp"
	"strings"
	"testing"

	"fulcrum/api"
	"fulcrum/ratio"
	"fulcrum/whole"
)

func TestY6Text(t *testing.T) {
	eachRat(func(r api.Rat) {
		if s := ratio.Text(r); s != in(r).RatString() {
			t.Fatalf("Text of %v: %q", in(r), s)
		}
	})
}

var numberText = regexp.MustCompile(`^-?(0|[1-9][0-9]*)(/[1-9][0-9]*|\.[0-9]+)?$`)

// wantParse holds Parse against Y6's words, written as a pattern, and against math/big's value of what fits it.
func wantParse(t *testing.T, s string) {
	t.Helper()
	r, e := ratio.Parse(s)
	if !numberText.MatchString(s) {
		wantMade(t, "Parse of "+s, r, e, nil, api.ErrRat)
		return
	}
	want, ok := new(big.Rat).SetString(s)
	if !ok {
		t.Fatalf("math/big does not take %q", s)
	}
	wantMade(t, "Parse of "+s, r, e, want, api.OK)
}

func TestY6ParseOfShortTexts(t *testing.T) {
	texts := []string{""}
	for begin := 0; len(texts[begin]) < 5; begin++ {
		for _, c := range "-+015/. " {
			texts = append(texts, texts[begin]+string(c))
		}
	}
	for _, s := range texts {
		wantParse(t, s)
	}
}

func TestY6ParseOfRightTexts(t *testing.T) {
	for s, want := range map[string]string{
		"0": "0", "-0": "0", "-0/1": "0", "0/5": "0", "-0.0": "0", "0.000": "0", "12": "12", "-12": "-12", "6/4": "3/2", "-6/4": "-3/2", "4/2": "2", "10/10": "1",
		"0.05": "1/20", "-0.50": "-1/2", "1.0": "1", "10.010": "1001/100", "18446744073709551616/4294967296": "4294967296", "-1/18446744073709551616": "-1/18446744073709551616",
	} {
		r, e := ratio.Parse(s)
		wantText(t, "Parse of "+s, r, e, want)
	}
}

func TestY6ParseOfWrongTexts(t *testing.T) {
	long := strings.Repeat("9", 400)
	for _, s := range []string{
		"", "-", "--1", "-+1", "+1", "1/", "/1", "/", ".", "-/", "-.", "1.", ".5", "-.5", "1.5/2", "1/2.5", "1/01", "1/00", "1/0", "0/0", "-0/0", "01", "00", "-01", "00.5", "01/2", "1/-2", "1/+2", "1.-5", "1.+5",
		"1/2/3", "1.2.3", "1//2", "1..2", "1 /2", "1/ 2", " 1", "1 ", "1\n", "1e3", "0x1", "1_0", "1.0_0", "１", "1.٣", "−1", "\xff", "1/\xff", "1.\xff", "1,5", "1:2", "1.5 ", "1.5e1", "inf", "nan",
		long + "a", "0" + long, long + "/0" + long, long + "." + long + "/1", long + ".", long + "/",
	} {
		r, e := ratio.Parse(s)
		wantMade(t, "Parse of "+s, r, e, nil, api.ErrRat)
	}
}

// More digits behind the point than layer 1's powers go.
func TestY6ParseOfLongTexts(t *testing.T) {
	ones := strings.Repeat("1", 2*api.MaxPow+3)
	noughts := strings.Repeat("0", 2*api.MaxPow+3)
	for _, s := range []string{"-" + ones, ones + "/" + ones + "7", "0." + ones, "-" + ones + "." + noughts, "0." + noughts, "0." + noughts + "1", ones + "." + ones} {
		wantParse(t, s)
	}
}

// decimalOf is Y7 in its own words.
func decimalOf(r *big.Rat, places int) string {
	scale := new(big.Int).Exp(bigOf(10), bigOf(int64(places)), nil)
	x := new(big.Rat).Mul(r, bigWhole(scale))
	m := floorOf(x)
	next := new(big.Int).Add(m, bigOf(1))
	c := distance(bigWhole(next), x).Cmp(distance(bigWhole(m), x))
	if c < 0 || c == 0 && m.Bit(0) == 1 {
		m = next
	}
	sign := ""
	if m.Sign() < 0 {
		sign = "-"
	}
	ahead, behind := new(big.Int).QuoRem(new(big.Int).Abs(m), scale, new(big.Int))
	if places == 0 {
		return sign + ahead.String()
	}
	digits := behind.String()
	return sign + ahead.String() + "." + strings.Repeat("0", places-len(digits)) + digits
}

func wantDecimal(t *testing.T, r api.Rat, places int, want string) {
	t.Helper()
	s, e := ratio.Decimal(r, places)
	if s != want || e != api.OK {
		t.Fatalf("Decimal of %v to %d places: %q, error %d, not %q", in(r), places, s, e, want)
	}
}

func TestY7Decimal(t *testing.T) {
	eachRat(func(r api.Rat) {
		for _, places := range []int{0, 1, 2, 3, 17, 40} {
			wantDecimal(t, r, places, decimalOf(in(r), places))
		}
	})
	eachSmall(3, 40, func(r *big.Rat) {
		for places := range 3 {
			wantDecimal(t, of(r), places, decimalOf(r, places))
		}
	})
}

func TestY7DecimalAtItsEdges(t *testing.T) {
	for _, c := range []struct {
		r      string
		places int
		want   string
	}{
		{"1/2", 0, "0"}, {"-1/2", 0, "0"}, {"3/2", 0, "2"}, {"-3/2", 0, "-2"}, {"5/2", 0, "2"}, {"7/2", 0, "4"}, {"-7/2", 0, "-4"}, {"-1/3", 0, "0"}, {"-2/3", 0, "-1"},
		{"1/200", 2, "0.00"}, {"-1/200", 2, "0.00"}, {"3/200", 2, "0.02"}, {"-3/200", 2, "-0.02"}, {"-1/199", 2, "-0.01"}, {"-1/1000", 2, "0.00"}, {"1/20", 1, "0.0"}, {"3/20", 1, "0.2"}, {"-1/4", 1, "-0.2"},
		{"0", 0, "0"}, {"0", 3, "0.000"}, {"12", 0, "12"}, {"-12", 1, "-12.0"}, {"999/1000", 2, "1.00"}, {"-999/1000", 0, "-1"}, {"19/2", 0, "10"}, {"2/3", 4, "0.6667"}, {"-2/3", 4, "-0.6667"}, {"1001/100", 1, "10.0"},
	} {
		wantDecimal(t, num(c.r), c.places, c.want)
	}
}

func TestY7DecimalAtItsLimit(t *testing.T) {
	for _, r := range edges() {
		for _, places := range []int{api.MaxPlaces - 1, api.MaxPlaces} {
			wantDecimal(t, r, places, decimalOf(in(r), places))
		}
		for _, places := range []int{-1, -2, math.MinInt, api.MaxPlaces + 1, math.MaxInt} {
			if s, e := ratio.Decimal(r, places); s != "" || e != api.ErrPlaces {
				t.Fatalf("Decimal to %d places: %q, error %d", places, s, e)
			}
		}
	}
}

// scriptOf is Y8 in its own words.
func scriptOf(r *big.Rat) string {
	switch {
	case r.Sign() < 0:
		return "(- " + scriptOf(new(big.Rat).Neg(r)) + ")"
	case r.IsInt():
		return r.Num().String() + ".0"
	}
	return "(/ " + r.Num().String() + ".0 " + r.Denom().String() + ".0)"
}

func TestY8Script(t *testing.T) {
	eachRat(func(r api.Rat) {
		if s := ratio.Script(r); s != scriptOf(in(r)) {
			t.Fatalf("Script of %v: %q", in(r), s)
		}
	})
	for _, c := range []struct {
		r    api.Rat
		want string
	}{
		{api.Rat{}, "0.0"}, {api.Rat{Num: whole.Of(-5)}, "0.0"}, {api.Rat{Num: api.Int{Neg: true}, Den: api.Nat{3}}, "0.0"}, {api.Rat{Num: whole.Of(-6), Den: api.Nat{4, 0}}, "(- (/ 3.0 2.0))"},
		{api.Rat{Num: whole.Of(6), Den: api.Nat{3}}, "2.0"}, {api.Rat{Num: whole.Of(-6), Den: api.Nat{2}}, "(- 3.0)"}, {num("18446744073709551617/4294967296"), "(/ 18446744073709551617.0 4294967296.0)"},
	} {
		if s := ratio.Script(c.r); s != c.want {
			t.Errorf("Script of %v: %q", c.r, s)
		}
	}
}
