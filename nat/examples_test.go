package nat_test

import (
	"testing"

	"fulcrum/api"
	"fulcrum/nat"
)

// The six examples of the chapter, as they stand there.

func TestExample1(t *testing.T) {
	wantNat(t, "Norm", nat.Norm(api.Nat{1, 0, 0}), api.Nat{1})
	wantNat(t, "Norm", nat.Norm(api.Nat{0}), nil)
	wantNat(t, "Of", nat.Of(1<<32), api.Nat{0, 1})
	if n, ok := nat.Small(api.Nat{0, 0, 1}); n != 0 || ok {
		t.Error("Small of 2^64:", n, ok)
	}
	if n, ok := nat.Small(api.Nat{full, full, 0}); n != 1<<64-1 || !ok {
		t.Error("Small of 2^64 - 1:", n, ok)
	}
}

func TestExample2(t *testing.T) {
	wantNat(t, "Add", nat.Add(api.Nat{full}, api.Nat{1}), api.Nat{0, 1})
	d, e := nat.Sub(api.Nat{0, 1}, api.Nat{1})
	wantNat(t, "Sub", d, api.Nat{full})
	wantErr(t, "Sub", e, api.OK)
	_, e = nat.Sub(api.Nat{}, api.Nat{1})
	wantErr(t, "Sub", e, api.ErrBelow)
	wantNat(t, "Mul", nat.Mul(api.Nat{full}, api.Nat{full}), api.Nat{1, 0xfffffffe})
}

func TestExample3(t *testing.T) {
	q, r, e := nat.Div(api.Nat{0, 0, 0x80000000}, api.Nat{1, 0, 0x80000000})
	wantNat(t, "q", q, nil)
	wantNat(t, "r", r, api.Nat{0, 0, 0x80000000})
	wantErr(t, "Div", e, api.OK)
	q, r, e = nat.Div(api.Nat{0, 0, 1}, api.Nat{full})
	wantNat(t, "q", q, api.Nat{1, 1})
	wantNat(t, "r", r, api.Nat{1})
	wantErr(t, "Div", e, api.OK)
	_, _, e = nat.Div(api.Nat{5}, api.Nat{0, 0})
	wantErr(t, "Div", e, api.ErrZero)
}

func TestExample4(t *testing.T) {
	wantNat(t, "Gcd", nat.Gcd(api.Nat{0xc}, api.Nat{0x12}), api.Nat{6})
	if n := nat.Bits(api.Nat{0, 1}); n != 33 {
		t.Error("Bits:", n)
	}
	if !nat.Bit(api.Nat{0, 1}, 32) {
		t.Error("Bit")
	}
}

func TestExample5(t *testing.T) {
	wantNat(t, "Shift", must(nat.Shift(api.Nat{1}, 33)), api.Nat{0, 2})
	wantNat(t, "Shift", must(nat.Shift(api.Nat{0, 2}, -33)), api.Nat{1})
	wantNat(t, "Shift", must(nat.Shift(api.Nat{3}, -1)), api.Nat{1})
	wantNat(t, "Pow", must(nat.Pow(api.Nat{}, 0)), api.Nat{1})
	wantNat(t, "Pow", must(nat.Pow(api.Nat{2}, 64)), api.Nat{0, 0, 1})
	wantNat(t, "Root", nat.Root(api.Nat{0xf}), api.Nat{3})
	wantNat(t, "Root", nat.Root(api.Nat{0x10}), api.Nat{4})
}

func TestExample6(t *testing.T) {
	for _, c := range []struct {
		a    api.Nat
		base int
		text string
		e    api.Errno
	}{
		{api.Nat{0xff}, 16, "ff", api.OK},
		{api.Nat{0, 1}, 10, "4294967296", api.OK},
		{api.Nat{}, 2, "0", api.OK},
		{api.Nat{1}, 17, "", api.ErrBase},
	} {
		if s, e := nat.Text(c.a, c.base); s != c.text || e != c.e {
			t.Errorf("Text of %x in base %d: %q, %d", c.a, c.base, s, e)
		}
	}
	wantNat(t, "Parse", must(nat.Parse("4294967296", 10)), api.Nat{0, 1})
	for _, c := range []struct {
		s    string
		base int
	}{{"01", 10}, {"FF", 16}, {"", 10}, {"2", 2}} {
		_, e := nat.Parse(c.s, c.base)
		wantErr(t, "Parse of "+c.s, e, api.ErrDigit)
	}
}
