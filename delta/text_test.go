package delta_test

import (
	"math/big"
	"regexp"
	"strings"
	"testing"

	"fulcrum/api"
	"fulcrum/delta"
)

// textOf is D4 in its own words.
func textOf(p pair) string {
	text := p.a.RatString()
	switch p.b.Sign() {
	case 1:
		text += "+" + p.b.RatString() + "d"
	case -1:
		text += "-" + opposite(p.b).RatString() + "d"
	}
	return text
}

func TestD4Text(t *testing.T) {
	eachNumber(func(d api.Delta) {
		if s := delta.Text(d); s != textOf(in(d)) {
			t.Fatalf("Text of %v: %q", in(d), s)
		}
	})
}

func TestD4TextAtItsEdges(t *testing.T) {
	for _, c := range []struct{ a, b, want string }{
		{"0", "0", "0"}, {"0", "1", "0+1d"}, {"0", "-1", "0-1d"}, {"-5", "0", "-5"}, {"-5", "-1/2", "-5-1/2d"}, {"7/2", "10", "7/2+10d"}, {"-7/2", "-10", "-7/2-10d"},
		{"18446744073709551616/3", "-1/18446744073709551617", "18446744073709551616/3-1/18446744073709551617d"},
	} {
		if s := delta.Text(number(c.a, c.b)); s != c.want {
			t.Errorf("Text: %q, not %q", s, c.want)
		}
		if s := delta.Text(api.Delta{A: otherwise(num(c.a)), B: otherwise(num(c.b))}); s != c.want {
			t.Errorf("Text of parts not in lowest terms: %q, not %q", s, c.want)
		}
	}
	for _, b := range zeros() {
		if s := delta.Text(api.Delta{A: num("3"), B: b}); s != "3" {
			t.Errorf("Text of 3 and %v d: %q", b, s)
		}
	}
}

func wantNoNumber(t *testing.T, s string) {
	t.Helper()
	d, e := delta.Parse(s)
	wantErr(t, "Parse of "+s, e, api.ErrDelta)
	if !isZero(d.A) || !isZero(d.B) {
		t.Fatalf("Parse of %q: %v beside an error", s, d)
	}
}

var twoParts = regexp.MustCompile(`^(-?[0-9]+(?:/[0-9]+)?)(?:([+-])([0-9]+(?:/[0-9]+)?)d)?$`)

// numberOf is the number whose Text s is, found by a pattern and by math/big.
func numberOf(s string) (pair, bool) {
	l := twoParts.FindStringSubmatch(s)
	if l == nil {
		return pair{}, false
	}
	p := pair{nothing(), nothing()}
	if _, ok := p.a.SetString(l[1]); !ok {
		return pair{}, false
	}
	if l[3] != "" {
		if _, ok := p.b.SetString(strings.TrimPrefix(l[2], "+") + l[3]); !ok {
			return pair{}, false
		}
	}
	return p, textOf(p) == s
}

func wantParse(t *testing.T, s string) {
	t.Helper()
	p, ok := numberOf(s)
	if !ok {
		wantNoNumber(t, s)
		return
	}
	wantIs(t, "Parse of "+s, parsed(t, s), p.a, p.b)
}

func TestD4ParseOfShortTexts(t *testing.T) {
	texts := []string{""}
	for begin := 0; len(texts[begin]) < 6; begin++ {
		for _, c := range "-+02/d." {
			texts = append(texts, texts[begin]+string(c))
		}
	}
	right := 0
	for _, s := range texts {
		wantParse(t, s)
		if _, ok := numberOf(s); ok {
			right++
		}
	}
	if right < 100 {
		t.Fatalf("%d texts of numbers alone", right)
	}
}

// One byte more, less, or another one.
func TestD4ParseOfTextsWithAFault(t *testing.T) {
	for _, s := range []string{"3-1d", "-1/2+1/3d", "0+2d", "5", "-10/7-20/11d", "100"} {
		wantParse(t, s)
		for i := range len(s) + 1 {
			for _, c := range []string{"", "0", "1", "2", "+", "-", "/", "d", ".", " ", "e", "D", "\n", "\x00", "\xff", "é"} {
				wantParse(t, s[:i]+c+s[i:])
				if i < len(s) {
					wantParse(t, s[:i]+c+s[i+1:])
				}
			}
		}
	}
}

func TestD4ParseOfRightTexts(t *testing.T) {
	for s, want := range map[string][2]string{
		"0": {"0", "0"}, "5": {"5", "0"}, "-5": {"-5", "0"}, "1/2": {"1/2", "0"}, "-7/2": {"-7/2", "0"}, "0-1d": {"0", "-1"}, "0+1d": {"0", "1"}, "3-1d": {"3", "-1"}, "3+1/2d": {"3", "1/2"},
		"-3-1/2d": {"-3", "-1/2"}, "-1/2+10d": {"-1/2", "10"}, "18446744073709551616-1/18446744073709551616d": {"18446744073709551616", "-1/18446744073709551616"},
	} {
		wantIs(t, "Parse of "+s, parsed(t, s), bigNum(want[0]), bigNum(want[1]))
	}
}

func TestD4ParseOfWrongTexts(t *testing.T) {
	long := strings.Repeat("9", 400)
	for _, s := range []string{
		"", "d", "+", "-", "+d", "-d", "+1d", "-1d", "1d", "2/3d", "0d", "3+1", "3-1", "3-0d", "3+0d", "0+0d", "0-0d", "-0", "-0+1d", "-0-1d", "3+d", "3-d",
		"3+-1d", "3--1d", "3-+1d", "3++1d", "+3+1d", "--3+1d", "+3", "3+1/1d", "3+2/4d", "3+4/2d", "3+0/1d", "3+1/0d", "3+1/d", "3+/2d", "2/4", "4/2", "5/1", "0/1", "1/0", "2/4+1d", "3/1-1d", "0/5+1d",
		"3+1dd", "3+1d ", " 3+1d", "3 +1d", "3+ 1d", "3+1 d", "3+1d\n", "3+1D", "3d+1", "3d+1d", "3+1d+1d", "3+1d-2d", "1d+3", "3+1+1d", "3-1+1d",
		"03", "03+1d", "3+01d", "3-01d", "3+1/02d", "00", "00+1d", "-03", "-03-1d", "01/2", "3.0", "3.5", "3+0.5d", "0.5+1d", "3+1.0d", "3.+1d", "1e3", "3+1e3d", "3+1e+3d",
		"3+１d", "３+1d", "3−1d", "3+1δ", "\xff", "3+\xffd", "3\xff+1d", "3+1d\x00", "x", "x+1d", "3+xd", "(3+1d)", "3+1*d", "3+1ε",
		long + "d", "0" + long, long + "+" + long, long + "+" + long + "dd", long + "/" + long, long + "+" + long + "/" + long + "d", long + "." + long, "0+0." + long + "d",
	} {
		wantNoNumber(t, s)
	}
}

func TestD4LongTexts(t *testing.T) {
	ones, more := strings.Repeat("1", 3000), new(big.Int).Lsh(big.NewInt(1), 9000).String()
	for _, s := range []string{ones + "-" + more + "d", "-" + ones + "/" + more + "+" + more + "/" + ones + "d", "0+1/" + more + "d", "-" + more} {
		wantParse(t, s)
		if _, ok := numberOf(s); !ok {
			t.Fatal("not a text that was asked for")
		}
	}
}
