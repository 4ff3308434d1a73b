package whole_test

import (
	"testing"

	"fulcrum/api"
	"fulcrum/whole"
)

// The five examples of the chapter, as they stand there.

func TestExample1(t *testing.T) {
	for _, c := range []struct {
		name       string
		way        func(a, b api.Int) (api.Int, api.Int, api.Errno)
		a, b, q, r string
	}{
		{"Quo", whole.Quo, "-7", "2", "-3", "-1"}, {"Floor", whole.Floor, "-7", "2", "-4", "1"}, {"Euclid", whole.Euclid, "-7", "2", "-4", "1"},
		{"Euclid", whole.Euclid, "-7", "-2", "4", "1"}, {"Floor", whole.Floor, "7", "-2", "-4", "-1"}, {"Quo", whole.Quo, "7", "-2", "-3", "1"},
	} {
		q, r, e := c.way(num(c.a), num(c.b))
		wantErr(t, c.name, e, api.OK)
		wantText(t, c.name, q, c.q)
		wantText(t, c.name, r, c.r)
	}
}

func TestExample2(t *testing.T) {
	wantNat(t, "Gcd", whole.Gcd(num("-12"), num("18")), bigOf(6))
	wantNat(t, "Lcm", whole.Lcm(num("-4"), num("6")), bigOf(12))
	wantNat(t, "Gcd", whole.Gcd(num("0"), num("0")), bigOf(0))
	wantNat(t, "Lcm", whole.Lcm(num("0"), num("5")), bigOf(0))
	for _, c := range [][5]int64{{12, 18, 6, 2, -1}, {-5, 0, 5, -1, 0}, {0, -7, 7, 0, -1}} {
		g, x, y := whole.Bezout(whole.Of(c[0]), whole.Of(c[1]))
		wantNat(t, "g", g, bigOf(c[2]))
		wantIs(t, "x", x, bigOf(c[3]))
		wantIs(t, "y", y, bigOf(c[4]))
	}
}

func TestExample3(t *testing.T) {
	for _, c := range [][3]int64{{3, 7, 5}, {-3, 7, 2}, {5, 1, 0}} {
		x, e := whole.Inverse(whole.Of(c[0]), whole.Of(c[1]))
		wantErr(t, "Inverse", e, api.OK)
		wantIs(t, "Inverse", x, bigOf(c[2]))
	}
	x, e := whole.Inverse(num("2"), num("4"))
	wantNothing(t, "Inverse of 2 modulo 4", e, api.ErrInverse, x)
	x, e = whole.Inverse(num("5"), num("0"))
	wantNothing(t, "Inverse modulo 0", e, api.ErrInverse, x)
}

func TestExample4(t *testing.T) {
	for _, c := range [][3]int64{{-5, 1, -10}, {-5, -1, -3}, {5, -9, 0}} {
		x, e := whole.Shift(whole.Of(c[0]), int(c[1]))
		wantErr(t, "Shift", e, api.OK)
		wantIs(t, "Shift", x, bigOf(c[2]))
	}
	for _, c := range [][3]int64{{-2, 5, -32}, {0, 0, 1}} {
		x, e := whole.Pow(whole.Of(c[0]), int(c[1]))
		wantErr(t, "Pow", e, api.OK)
		wantIs(t, "Pow", x, bigOf(c[2]))
	}
	x, e := whole.Root(num("24"))
	wantErr(t, "Root", e, api.OK)
	wantIs(t, "Root", x, bigOf(4))
}

func TestExample5(t *testing.T) {
	for _, s := range []string{"-0", "007", "+1", "", "-"} {
		x, e := whole.Parse(s)
		wantNothing(t, "Parse of "+s, e, api.ErrDigit, x)
	}
	if s := whole.Text(api.Int{Neg: true, Abs: api.Nat{0, 0}}); s != "0" {
		t.Errorf("Text of 0: %q", s)
	}
}
