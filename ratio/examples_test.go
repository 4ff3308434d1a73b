package ratio_test

import (
	"math/big"
	"testing"

	"fulcrum/api"
	"fulcrum/ratio"
	"fulcrum/whole"
)

// The eight examples of the chapter, as they stand there.

func TestExample1(t *testing.T) {
	r, e := ratio.Of(whole.Of(6), whole.Of(-4))
	wantText(t, "Of", r, e, "-3/2")
	r, e = ratio.Of(whole.Of(1), whole.Of(0))
	wantMade(t, "Of", r, e, nil, api.ErrZero)
	wantIs(t, "no Den", ratio.Norm(api.Rat{Num: whole.Of(5)}), new(big.Rat))
}

func TestExample2(t *testing.T) {
	wantIs(t, "Add", ratio.Add(num("1/2"), num("1/3")), big.NewRat(5, 6))
	if c := ratio.Cmp(num("-1/2"), num("-1/3")); c != -1 {
		t.Errorf("Cmp: %d", c)
	}
	r, e := ratio.Div(num("1"), num("0"))
	wantMade(t, "Div", r, e, nil, api.ErrZero)
	wantInt(t, "Floor", ratio.Floor(num("-7/2")), bigOf(-4))
	wantInt(t, "Ceil", ratio.Ceil(num("-7/2")), bigOf(-3))
}

func TestExample3(t *testing.T) {
	for s, want := range map[string][]*big.Int{
		"-7/2": {bigOf(-4), bigOf(2)}, "415/93": {bigOf(4), bigOf(2), bigOf(6), bigOf(7)}, "3": {bigOf(3)}, "1/2": {bigOf(0), bigOf(2)},
	} {
		wantInts(t, "Expand of "+s, ratio.Expand(num(s)), want)
	}
	r, e := ratio.Fold(ints(4, 2, 6, 7))
	wantText(t, "Fold", r, e, "415/93")
	r, e = ratio.Fold(ints(0, 1, 1))
	wantText(t, "Fold", r, e, "1/2")
	r, e = ratio.Fold(ints(1, 0))
	wantMade(t, "Fold", r, e, nil, api.ErrArg)
}

func TestExample4(t *testing.T) {
	for _, c := range [][3]string{{"1/3", "1/2", "2/5"}, {"-1/2", "1/2", "0"}, {"3", "10", "4"}, {"-10", "-3", "-4"}} {
		r, e := ratio.Simplest(num(c[0]), num(c[1]))
		wantText(t, "Simplest", r, e, c[2])
	}
	r, e := ratio.Simplest(num("1"), num("1"))
	wantMade(t, "Simplest", r, e, nil, api.ErrOrder)
}

func TestExample5(t *testing.T) {
	for _, c := range []struct {
		r    string
		most uint32
		want string
	}{{"314159/100000", 7, "22/7"}, {"1/2", 1, "0"}, {"7/12", 3, "1/2"}} {
		r, e := ratio.Best(num(c.r), api.Nat{c.most})
		wantText(t, "Best", r, e, c.want)
	}
}

func TestExample6(t *testing.T) {
	if s := ratio.Text(num("-3/2")); s != "-3/2" {
		t.Errorf("Text: %q", s)
	}
	for s, want := range map[string]string{"6/4": "3/2", "-0.50": "-1/2", "-0": "0"} {
		r, e := ratio.Parse(s)
		wantText(t, "Parse of "+s, r, e, want)
	}
	for _, s := range []string{"01", "1/0", "1.", ".5", "+1", "1/-2"} {
		r, e := ratio.Parse(s)
		wantMade(t, "Parse of "+s, r, e, nil, api.ErrRat)
	}
}

func TestExample7(t *testing.T) {
	for _, c := range []struct {
		r      string
		places int
		want   string
	}{{"1/8", 2, "0.12"}, {"3/8", 2, "0.38"}, {"-1/3", 0, "0"}, {"-5/2", 0, "-2"}, {"10", 3, "10.000"}} {
		wantDecimal(t, num(c.r), c.places, c.want)
	}
}

func TestExample8(t *testing.T) {
	for s, want := range map[string]string{"7/2": "(/ 7.0 2.0)", "-7/2": "(- (/ 7.0 2.0))", "-3": "(- 3.0)", "0": "0.0"} {
		if got := ratio.Script(num(s)); got != want {
			t.Errorf("Script of %s: %q", s, got)
		}
	}
}
