package approx_test

import (
	"math"
	"math/big"
	"regexp"
	"strconv"
	"strings"
	"testing"

	"fulcrum/api"
	"fulcrum/approx"
)

var decimalText = regexp.MustCompile(`^-?[0-9]+(\.[0-9]+)?([eE][+-]?[0-9]+)?$`)

// readByOthers is what strconv makes of a decimal text: it rounds as P4.2 does.
func readByOthers(s string) float64 {
	f, _ := strconv.ParseFloat(s, 64)
	return f
}

func wantWrong(t *testing.T, s string) {
	t.Helper()
	f, e := approx.Read(s)
	wantFloat(t, "Read of "+s, f, e, 0, api.ErrFloat)
}

// isRight is P4.9's form, of short texts.
func isRight(s string) bool {
	_, exponent, _ := strings.Cut(strings.ToLower(s), "e")
	n, _ := strconv.Atoi(exponent)
	return decimalText.MatchString(s) && max(n, -n) <= api.MaxExp
}

func TestP4_9ReadOfShortTexts(t *testing.T) {
	eachText("", 6, func(s string) {
		if isRight(s) {
			wantRead(t, s, readByOthers(s))
		} else {
			wantWrong(t, s)
		}
	})
}

func eachText(begin string, more int, do func(s string)) {
	do(begin)
	if more == 0 {
		return
	}
	for _, c := range "05-+.eE" {
		eachText(begin+string(c), more-1, do)
	}
}

func TestP4_9ReadOfRightTexts(t *testing.T) {
	for s, want := range map[string]float64{
		"0": 0, "-0": minusZero, "0.000": 0, "-0.000e5": minusZero, "000": 0, "-0e5000": minusZero, "0E-5000": 0, "-00e+0": minusZero,
		"1": 1, "-1": -1, "007.50E+1": 75, "0.1": 0.1, "1e0": 1, "1e+0": 1, "1e-0": 1, "1e0005000": infinite, "-1e5000": -infinite, "1e-5000": 0, "-1e-05000": minusZero,
		"5e-324": least, "2e-324": 0, "-2e-324": minusZero, "3e-324": least, "1.7976931348623157e308": greatest, "1.7976931348623158e308": greatest, "1.7976931348623159e308": infinite, "-1.8e308": -infinite,
		"2.2250738585072011e-308": before(normal), "2.2250738585072014e-308": normal, "9007199254740993": 9007199254740992, "9007199254740993.0000000001": 9007199254740994,
		strings.Repeat("0", 900) + "1": 1, "1" + strings.Repeat("0", 400): infinite, "0." + strings.Repeat("0", 900) + "1e901": 1, "1" + strings.Repeat("0", 900) + "e-900": 1,
		"1e" + strings.Repeat("0", 900) + "5": 1e5, "1e-" + strings.Repeat("0", 900) + "5": 1e-5, "1e+" + strings.Repeat("0", 900) + "5000": infinite,
	} {
		wantRead(t, s, want)
	}
}

func TestP4_9ReadOfWrongTexts(t *testing.T) {
	for _, s := range []string{
		"", "-", "--1", "+1", "+", ".", ".5", "5.", "-.5", "1.e5", ".e5", "e5", "-e5", "1e", "1e+", "1e-", "1E", "1e+-5", "1e-+5", "1e--5", "1e++5", "1e5.0", "1e5e5", "1.2.3", "1ee5",
		"0x1", "0x1p3", "1p3", "1_000", "1_0.0", "Inf", "-Inf", "+Inf", "inf", "infinity", "NaN", "nan", " 1", "1 ", "1\n", "1\x00", "1,5", "１", "1e５", "\xff", "é", "- 1", "1 e5", "1/2",
		"1e5001", "1e+5001", "1e-5001", "1e-05001", "1e005001", "0e5001", "-0e-5001", "1e9999999999", "1e18446744073709551616", "1e-18446744073709556616", "1e" + strings.Repeat("9", 900),
	} {
		wantWrong(t, s)
	}
}

func TestP4_9ReadAtItsLimit(t *testing.T) {
	for _, s := range []string{"1" + strings.Repeat("0", 999), "-" + strings.Repeat("9", 999), "0." + strings.Repeat("3", 998), "1e" + strings.Repeat("0", 998), strings.Repeat("7", 500) + "." + strings.Repeat("7", 494) + "e-300"} {
		if len(s) != api.MaxPlaces {
			t.Fatalf("%d bytes", len(s))
		}
		wantRead(t, s, readByOthers(s))
		f, e := approx.Read(s + "0")
		wantFloat(t, "a byte too long", f, e, 0, api.ErrLong)
	}
	for _, s := range []string{strings.Repeat("x", api.MaxPlaces), strings.Repeat("é", api.MaxPlaces/2)} {
		wantWrong(t, s)
		f, e := approx.Read(s + "x") // both apply
		wantFloat(t, "too long and wrong", f, e, 0, api.ErrLong)
	}
	f, e := approx.Read(strings.Repeat("0", 1<<20))
	wantFloat(t, "far too long", f, e, 0, api.ErrLong)
}

// Texts half way between two floats, and with one more digit behind: some hundred digits long.
func TestP4_9ReadAtHalves(t *testing.T) {
	for _, f := range edges() {
		f = math.Abs(f)
		if f == greatest {
			continue
		}
		half := product(sum(exact(f), exact(after(f))), two(-1))
		text := half.FloatString(1074 + 2)
		if strings.Contains(text, ".") {
			text = strings.TrimRight(strings.TrimRight(text, "0"), ".")
		}
		digits, exponent := strings.Replace(text, ".", "", 1), 0
		if i := strings.Index(text, "."); i >= 0 {
			exponent = i + 1 - len(text)
		}
		digits = strings.TrimLeft(digits, "0")
		wantRead(t, digits+"e"+strconv.Itoa(exponent), nearest(half))
		behind := strings.Repeat("0", 900-len(digits)) + "1"
		wantRead(t, digits+behind+"e"+strconv.Itoa(exponent-len(behind)), after(f))
		just := new(big.Int)
		just.SetString(digits+strings.Repeat("0", 900-len(digits)), 10)
		just.Sub(just, big.NewInt(1))
		wantRead(t, just.String()+"e"+strconv.Itoa(exponent-900+len(digits)), f)
		wantRead(t, "-"+just.String()+"e"+strconv.Itoa(exponent-900+len(digits)), math.Copysign(f, -1))
	}
}

func TestP4_9ReadOfManyTexts(t *testing.T) {
	n := 0
	eachFinite(func(f float64) {
		n++
		s := strconv.FormatFloat(f, "ef"[n%2], n%40, 64)
		if len(s) <= api.MaxPlaces {
			wantRead(t, s, readByOthers(s))
		}
	})
}

// around is the texts of so many digits, in P4.10's form, that lie nearest to f, above 0: with each exponent that may be some below it and some above.
func around(f float64, digits int) []string {
	_, exponent, _ := strings.Cut(strconv.FormatFloat(f, 'e', 25, 64), "e")
	exp, _ := strconv.Atoi(exponent)
	var out []string
	for _, e := range []int{exp - 1, exp, exp + 1} {
		last := power10(e - digits + 1)
		num, den := new(big.Int).Mul(exact(f).Num(), last.Denom()), new(big.Int).Mul(exact(f).Denom(), last.Num())
		first := num.Quo(num, den)
		for step := int64(-1); step <= 2; step++ {
			all := new(big.Int).Add(first, big.NewInt(step)).String()
			switch {
			case len(all) != digits || all[0] == '0' || all[0] == '-':
			case digits == 1:
				out = append(out, all+"e"+strconv.Itoa(e))
			case all[digits-1] != '0':
				out = append(out, all[:1]+"."+all[1:]+"e"+strconv.Itoa(e))
			}
		}
	}
	return out
}

func power10(n int) *big.Rat {
	out := new(big.Rat).SetInt(new(big.Int).Exp(big.NewInt(10), big.NewInt(int64(max(n, -n))), nil))
	if n < 0 {
		out.Inv(out)
	}
	return out
}

// shortest is P4.10 in its own words, of an f above 0.
func shortest(f float64) string {
	best := ""
	for digits := 1; best == ""; digits++ {
		for _, s := range around(f, digits) {
			if readByOthers(s) == f && (best == "" || comesFirst(s, best, f)) {
				best = s
			}
		}
	}
	return best
}

// comesFirst tells whether a lies nearer to f than b does, or as near and ends with an even digit.
func comesFirst(a, b string, f float64) bool {
	order := distance(num(a), exact(f)).Cmp(distance(num(b), exact(f)))
	last := a[strings.Index(a, "e")-1]
	return order < 0 || order == 0 && last%2 == 0
}

func TestP4_10Short(t *testing.T) {
	eachFinite(func(f float64) {
		switch {
		case f > 0:
			wantShort(t, f, shortest(f))
		case f < 0:
			wantShort(t, f, "-"+shortest(-f))
		}
	})
}

func TestP4_10ShortAtItsEdges(t *testing.T) {
	for s, f := range map[string]float64{
		"0": 0, "-0": minusZero, "1e0": 1, "-1e0": -1, "1e1": 10, "1.2e1": 12, "1e22": 1e22, "1e23": 1e23, "9.999999999999997e22": before(1e23), "1e-5": 1e-5, "-2.5e-1": -0.25, "1e2": 100, "1.01e2": 101,
		"5e-324": least, "1e-323": 2 * least, "1.5e-323": 3 * least, "2e-323": 4 * least, "-5e-324": -least,
		"2.2250738585072014e-308": normal, "2.225073858507201e-308": before(normal), "2.225073858507202e-308": after(normal),
		"1.7976931348623157e308": greatest, "1.7976931348623155e308": before(greatest), "-1.7976931348623157e308": -greatest,
		"9.007199254740992e15": 1 << 53, "9.007199254740991e15": 1<<53 - 1, "1.8014398509481984e16": 1 << 54, "1.152921504606847e18": 1 << 60,
		"3.0000000000000004e-1": 0.30000000000000004, "1.0000000000000002e0": after(1), "9.999999999999999e-1": before(1),
	} {
		wantShort(t, f, s)
	}
}

// Floats just half way between two shortest texts: the one with the even last digit.
func TestP4_10ShortOfTwoAlike(t *testing.T) {
	wantShort(t, 1125899906842624.25, "1.1258999068426242e15")
	wantShort(t, 1125899906842624.75, "1.1258999068426248e15")
	wantShort(t, -1125899906842625.25, "-1.1258999068426252e15")
	for n := range 2000 {
		f := float64(1<<50) + float64(n)/4
		wantShort(t, f, shortest(f))
	}
}

func TestP4_10ShortOfNoNumber(t *testing.T) {
	eachNoNumber(func(f float64, want api.Errno) {
		if s, e := approx.Short(f); s != "" || e != want {
			t.Errorf("Short of %v: %q, error %d", f, s, e)
		}
	})
}

func TestP4_13ThereAndBack(t *testing.T) {
	eachFinite(func(f float64) {
		s, e := approx.Short(f)
		wantErr(t, "Short", e, api.OK)
		wantRead(t, s, f)
		mantissa, _, _ := strings.Cut(strings.TrimPrefix(s, "-"), "e")
		digits := len(strings.Replace(mantissa, ".", "", 1))
		if f == 0 || digits == 1 {
			return
		}
		for _, less := range around(math.Abs(f), digits-1) {
			if back, _ := approx.Read(less); back == math.Abs(f) {
				t.Fatalf("Short of %v: %s, but %s is shorter", f, s, less)
			}
		}
	})
}
