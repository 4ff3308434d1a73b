package linear_test

import (
	"math"
	"math/big"
	"regexp"
	"strconv"
	"strings"
	"testing"

	"fulcrum/api"
	"fulcrum/linear"
)

func parsed(t *testing.T, s string) api.Form {
	t.Helper()
	f, e := linear.Parse(s)
	wantErr(t, "Parse of "+s, e, api.OK)
	return f
}

// wantNoForm asks for ErrForm, and for nothing beside it.
func wantNoForm(t *testing.T, s string) {
	t.Helper()
	f, e := linear.Parse(s)
	wantErr(t, "Parse of "+s, e, api.ErrForm)
	if len(f) != 0 {
		t.Fatalf("Parse of %q: %v beside an error", s, f)
	}
}

// textOf is P6.9's own words.
func textOf(p poly) string {
	if len(p) == 0 {
		return "0"
	}
	var l []string
	for _, v := range p.vars() {
		l = append(l, p[v].RatString()+"*x"+strconv.Itoa(v))
	}
	return strings.Join(l, "+")
}

var onePart = regexp.MustCompile(`^(-?[0-9]+(?:/[0-9]+)?)\*x(-?[0-9]+)$`)

// formOf is the form whose Text s is, found by a pattern and by math/big.
func formOf(s string) (poly, bool) {
	out := poly{}
	for _, text := range strings.Split(s, "+") {
		if s == "0" {
			break
		}
		l := onePart.FindStringSubmatch(text)
		if l == nil {
			return nil, false
		}
		c, ok := new(big.Rat).SetString(l[1])
		v, okVar := new(big.Int).SetString(l[2], 10)
		if !ok || !okVar || !v.IsInt64() {
			return nil, false
		}
		out.put(int(v.Int64()), c)
	}
	return out, textOf(out) == s
}

// wantParse tells whether s is a form's text.
func wantParse(t *testing.T, s string) bool {
	t.Helper()
	p, ok := formOf(s)
	if ok {
		wantForm(t, "Parse of "+s, parsed(t, s), p)
	} else {
		wantNoForm(t, s)
	}
	return ok
}

func TestP6_9Text(t *testing.T) {
	eachForm(func(f api.Form) {
		s := linear.Text(f)
		if s != textOf(in(f)) {
			t.Fatalf("Text of %v: %q", in(f), s)
		}
		wantForm(t, "Parse of "+s, parsed(t, s), in(f))
	})
}

func TestP6_9TextAtItsEdges(t *testing.T) {
	for _, c := range []struct {
		f    api.Form
		want string
	}{
		{nil, "0"}, {form("0", 1), "0"}, {form("1", 1, "-1", 1), "0"}, {form("1", 0), "1*x0"}, {form("-1", -1), "-1*x-1"}, {form("2/4", 10), "1/2*x10"},
		{form("1/2", 10, "-1", 2), "-1*x2+1/2*x10"}, {form("-2/3", 2, "-5", -2), "-5*x-2+-2/3*x2"}, {form("1", 10, "1", 9, "1", -10, "1", -9), "1*x-10+1*x-9+1*x9+1*x10"},
		{form("1", math.MaxInt, "3", math.MinInt), "3*x-9223372036854775808+1*x9223372036854775807"},
		{form("18446744073709551616/3", 0), "18446744073709551616/3*x0"},
	} {
		if s := linear.Text(c.f); s != c.want {
			t.Errorf("Text of %v: %q, not %q", in(c.f), s, c.want)
		}
	}
	for _, zero := range zeros() {
		if s := linear.Text(api.Form{{Var: 4, Coef: zero}}); s != "0" {
			t.Errorf("Text of %v x4: %q", zero, s)
		}
	}
}

func TestP6_9ParseOfShortTexts(t *testing.T) {
	texts := []string{""}
	next := 0
	for round := 0; round < 5; round++ {
		for end := len(texts); next < end; next++ {
			for _, piece := range []string{"-", "+", "0", "1", "2", "/", "*x", "*", "x", "1*x", "."} {
				texts = append(texts, texts[next]+piece)
			}
		}
	}
	right := 0
	for _, s := range texts {
		if wantParse(t, s) {
			right++
		}
	}
	if right < 200 {
		t.Fatalf("%d texts of forms alone", right)
	}
}

// One byte more, less, or another one.
func TestP6_9ParseOfTextsWithAFault(t *testing.T) {
	for _, s := range []string{"0", "1*x0", "-1*x2+1/2*x10", "-10/7*x-20+3*x-1+1*x11", "5*x9223372036854775807", "-1/3*x-9223372036854775808"} {
		if !wantParse(t, s) {
			t.Fatalf("%q is not a form's text", s)
		}
		for i := range len(s) + 1 {
			for _, c := range []string{"", "0", "1", "2", "9", "+", "-", "/", "*", "x", "X", "_", ".", " ", "e", "\n", "\x00", "\xff", "é"} {
				wantParse(t, s[:i]+c+s[i:])
				if i < len(s) {
					wantParse(t, s[:i]+c+s[i+1:])
				}
			}
		}
	}
}

func TestP6_9ParseOfRightTexts(t *testing.T) {
	for s, want := range map[string]api.Form{
		"0": nil, "1*x0": form("1", 0), "-1*x-1": form("-1", -1), "1*x-1": form("1", -1), "1/2*x3+-7*x4": form("1/2", 3, "-7", 4), "3*x-12+-3*x-2+10*x-1+1*x0": form("3", -12, "-3", -2, "10", -1, "1", 0),
		"1*x-9223372036854775808+1*x9223372036854775807": form("1", math.MinInt, "1", math.MaxInt), "18446744073709551617*x1": form("18446744073709551617", 1),
	} {
		wantForm(t, "Parse of "+s, parsed(t, s), in(want))
	}
}

func TestP6_9ParseOfWrongTexts(t *testing.T) {
	long := strings.Repeat("9", 400)
	for _, s := range []string{
		"", "-0", "+0", "00", "0/1", "0.0", "0 ", " 0", "0\n", "1", "-1", "1/2", "0+0", "0+1*x1", "1*x1+0", "+", "-", "*", "x", "*x", "*x1", "x1", "x2", "-x1", "+x1", "1x1", "1*1", "1*", "1*x", "1*x+1*x1", "1*x1+1*x", "1*y1", "1*X1", "x1*1", "1*xx1", "1**x1", "1*x*x1", "1*x1*x2", "1*x1x2",
		"0*x1", "-0*x1", "0/1*x1", "0*x1+1*x2", "1*x1+0*x2", "1*x01", "1*x00", "1*x-0", "1*x-01", "1*x+1", "1*x--1", "1*x 1", "1* x1", "1 *x1", " 1*x1", "1*x1 ", "1*x1\n", "1*x1.0", "1*x1/1", "1*x1_0", "1*x0x1", "1*x1e0", "1*x\u0661", "\u0661*x1", "1\u00d7x1",
		"2/4*x1", "2/1*x1", "1/0*x1", "1/*x1", "/1*x1", "01*x1", "-01*x1", "1/02*x1", "--1*x1", "+1*x1", "1.0*x1", "0.5*x1", "1e1*x1", "1_0*x1", "-*x1", "1/-2*x1", "1/+2*x1", "(1)*x1",
		"1*x1+", "+1*x1", "1*x1++1*x2", "1*x1+ 1*x2", "1*x1 + 1*x2", "1*x1-1*x2", "1*x1+1*x1", "1*x1+-1*x1", "1*x2+1*x1", "1*x1+1*x-1", "1*x-1+1*x-2", "1*x9+1*x10+1*x9", "1*x10+1*x9", "1*x1;1*x2", "1*x1,1*x2", "1*x1+2", "2+1*x1",
		"1*x9223372036854775808", "1*x-9223372036854775809", "1*x18446744073709551616", "1*x18446744073709551617", "1*x" + long, "1*x-" + long, "0" + long + "*x1", long, long + "*x", long + "*x1+" + long + "*x1", "1/" + long + "0*x0" + long,
		"\xff", "1*x1\xff", "\xff1*x1", "1*x1\x00", "1*x\xff", strings.Repeat("+", 400), strings.Repeat("1*x1+", 400),
	} {
		wantNoForm(t, s)
	}
}

func TestP6_9LongTexts(t *testing.T) {
	ones, more := strings.Repeat("1", 2000), new(big.Int).Lsh(big.NewInt(1), 6000).String()
	var l []string
	for v := range 1500 {
		l = append(l, "-7/3*x"+strconv.Itoa(v-700))
	}
	for _, s := range []string{ones + "*x1+-" + more + "*x2", "-" + ones + "/" + more + "*x-5+" + more + "/" + ones + "*x5", strings.Join(l, "+")} {
		if !wantParse(t, s) {
			t.Fatal("not a text that was asked for")
		}
	}
}
