package nat_test

import (
	"math/big"
	"math/rand"
	"slices"
	"testing"

	"fulcrum/api"
	"fulcrum/nat"
)

const full = 0xffffffff

// isNormal: no nought as the last limb.
func isNormal(a api.Nat) bool {
	return len(a) == 0 || a[len(a)-1] != 0
}

func same(a, b api.Nat) bool {
	return slices.Equal(a, b)
}

func wantNat(t *testing.T, what string, got, want api.Nat) {
	t.Helper()
	if !same(got, want) {
		t.Errorf("%s: %x, not %x", what, []uint32(got), []uint32(want))
	}
}

func wantErr(t *testing.T, what string, got, want api.Errno) {
	t.Helper()
	if got != want {
		t.Errorf("%s: error %d, not %d", what, got, want)
	}
}

// wantBig holds an answer against math/big's, and asks for a normal one.
func wantBig(t *testing.T, what string, got api.Nat, want *big.Int) {
	t.Helper()
	if !isNormal(got) {
		t.Fatalf("%s: %x is not normal", what, []uint32(got))
	}
	if bigOf(got).Cmp(want) != 0 {
		t.Fatalf("%s: %x, not %x", what, []uint32(got), want)
	}
}

// bigOf reads a list as DOC.md says, limb by limb.
func bigOf(a api.Nat) *big.Int {
	out := new(big.Int)
	for i := len(a) - 1; i >= 0; i-- {
		out.Lsh(out, 32)
		out.Or(out, big.NewInt(int64(a[i])))
	}
	return out
}

// must is a number whose call had no error.
func must(a api.Nat, e api.Errno) api.Nat {
	if e != api.OK {
		panic("an error where none may be")
	}
	return a
}

// hex reads limbs written the highest first, eight digits each.
func hex(s string) api.Nat {
	return must(nat.Parse(s, 16))
}

// edges is numbers that stand where something changes, also with noughts at their end.
func edges() []api.Nat {
	return []api.Nat{
		nil, {}, {0}, {0, 0, 0}, {1}, {1, 0, 0}, {2}, {3}, {7, 0}, {9}, {10}, {16},
		{0x7fffffff}, {0x80000000}, {full}, {full, 0}, {0, 1}, {1, 1}, {0, 1, 0}, {full, full}, {full, full, 0},
		{0, 0, 1}, {0, 0x80000000}, {full, 0x7fffffff}, {0, 0, 0x80000000}, {1, 0, 0x80000000}, {full, full, full},
		{3, 0, 0, 0x80000000}, {1, 0, 0x20000000}, {0, 0xfffffffe, 0x80000000}, {full, 0, 0x80000000},
		{0, 0, full, full}, {full, 0, full, 0, full}, {1000000000}, {3567587328, 232}, {999999999},
	}
}

// someNat has up to most limbs, often those at which a carry or a guess goes wrong, and often noughts at its end.
func someNat(r *rand.Rand, most int) api.Nat {
	odd := [6]uint32{0, 1, full, full - 1, 0x80000000, 0x7fffffff}
	out := make(api.Nat, r.Intn(most+1))
	kind := r.Intn(4)
	for i := range out {
		switch kind {
		case 0, 1:
			out[i] = r.Uint32()
		case 2:
			out[i] = odd[r.Intn(len(odd))]
		default:
			out[i] = full
		}
	}
	if r.Intn(4) == 0 {
		out = append(out, make(api.Nat, r.Intn(3))...)
	}
	return out
}

// eachPair hands on all pairs of edges, and pairs of numbers of many lengths, some with a common divisor, some near to one another.
func eachPair(do func(a, b api.Nat)) {
	for _, a := range edges() {
		for _, b := range edges() {
			do(a, b)
		}
	}
	r := rand.New(rand.NewSource(11))
	for i := range 4000 {
		most := [5]int{2, 4, 9, 30, 150}[i%5]
		a, b := someNat(r, most), someNat(r, most)
		switch i % 7 {
		case 0:
			c := someNat(r, 5)
			a, b = nat.Mul(a, c), nat.Mul(b, c)
		case 1:
			b = nat.Add(a, someNat(r, 2))
		}
		do(a, b)
	}
}

func eachNat(do func(a api.Nat)) {
	eachPair(func(a, b api.Nat) { do(a) })
}
