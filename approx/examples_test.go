package approx_test

import (
	"math"
	"testing"

	"fulcrum/api"
	"fulcrum/approx"
	"fulcrum/ratio"
)

// The seven examples of the chapter, as they stand there.

func TestExample1(t *testing.T) {
	r, e := approx.Exact(0.1)
	wantErr(t, "Exact", e, api.OK)
	if s := ratio.Text(r); s != "3602879701896397/36028797018963968" {
		t.Errorf("Exact: %s", s)
	}
	tenth, third := of(num("1/10")), of(num("1/3"))
	same(t, "Nearest(1/10)", approx.Nearest(tenth), 0.1)
	same(t, "Down(1/10)", approx.Down(tenth), 0.09999999999999999)
	same(t, "Up(1/10)", approx.Up(tenth), 0.1)
	same(t, "Nearest(1/3)", approx.Nearest(third), 0.3333333333333333)
	same(t, "Down(1/3)", approx.Down(third), 0.3333333333333333)
}

func TestExample2(t *testing.T) {
	same(t, "2^53 + 1", approx.Nearest(of(sum(two(53), num("1")))), 9007199254740992)
	same(t, "2^53 + 3", approx.Nearest(of(sum(two(53), num("3")))), 9007199254740996)
	same(t, "2^1024 - 2^970", approx.Nearest(of(overflow())), infinite)
	same(t, "one less", approx.Nearest(of(sum(overflow(), num("-1")))), greatest)
	same(t, "Down(2^2000)", approx.Down(of(two(2000))), greatest)
	same(t, "Up(2^2000)", approx.Up(of(two(2000))), infinite)
	same(t, "Up(-2^2000)", approx.Up(of(opposite(two(2000)))), -greatest)
}

func TestExample3(t *testing.T) {
	tiny := of(opposite(two(-1080)))
	same(t, "Nearest", approx.Nearest(tiny), minusZero)
	same(t, "Up", approx.Up(tiny), minusZero)
	same(t, "Down", approx.Down(tiny), -0x1p-1074)
	f, e := approx.Next(-0x1p-1074)
	wantFloat(t, "Next(-2^-1074)", f, e, minusZero, api.OK)
	f, e = approx.Next(minusZero)
	wantFloat(t, "Next(-0)", f, e, 0x1p-1074, api.OK)
	f, e = approx.Prev(0x1p-1074)
	wantFloat(t, "Prev(2^-1074)", f, e, 0, api.OK)
}

func TestExample4(t *testing.T) {
	f, e := approx.Mid(1, 2)
	wantFloat(t, "Mid(1, 2)", f, e, 1.5, api.OK)
	f, e = approx.Mid(greatest, greatest)
	wantFloat(t, "Mid of the greatest", f, e, greatest, api.OK)
}

func TestExample5(t *testing.T) {
	s, e := approx.Prod(api.Span{Lo: -1, Hi: 2}, api.Span{Lo: -3, Hi: infinite})
	wantSpan(t, "Prod", s, e, api.Span{Lo: -infinite, Hi: infinite}, api.OK)
	s, e = approx.Prod(api.Span{Lo: 0, Hi: 0}, api.Span{Lo: 1, Hi: infinite})
	wantSpan(t, "Prod of 0", s, e, api.Span{Lo: 0, Hi: 0}, api.OK)
	s, e = approx.Quot(api.Span{Lo: 1, Hi: infinite}, api.Span{Lo: 2, Hi: infinite})
	wantSpan(t, "Quot", s, e, api.Span{Lo: 0, Hi: infinite}, api.OK)
	s, e = approx.Quot(api.Span{Lo: 1, Hi: 1}, api.Span{Lo: -1, Hi: 1})
	wantSpan(t, "Quot by 0", s, e, api.Span{}, api.ErrZero)
}

func TestExample6(t *testing.T) {
	wantRead(t, "1e400", infinite)
	wantRead(t, "-0.0", minusZero)
	wantRead(t, "0e-05000", 0)
	for _, s := range []string{".5", "5.", "1e", "0x1", "1e5001", "1e-05001"} {
		f, e := approx.Read(s)
		wantFloat(t, "Read of "+s, f, e, 0, api.ErrFloat)
	}
}

func TestExample7(t *testing.T) {
	wantShort(t, 0.1, "1e-1")
	wantShort(t, 123.456, "1.23456e2")
	wantShort(t, 5e-324, "5e-324")
	wantShort(t, 9007199254740993, "9.007199254740992e15")
	wantShort(t, math.Ldexp(3, -1074), "1.5e-323")
}
