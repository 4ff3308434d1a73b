package whole_test

import (
	"math/big"
	"math/rand"
	"testing"

	"fulcrum/api"
	"fulcrum/whole"
)

const full = 0xffffffff

// in is the number that an Int is read as (DOC.md, 'How a number is read').
func in(a api.Int) *big.Int {
	out := new(big.Int)
	for i, limb := range a.Abs {
		out.Add(out, new(big.Int).Lsh(big.NewInt(int64(limb)), uint(32*i)))
	}
	if a.Neg {
		out.Neg(out)
	}
	return out
}

// of is a normal Int, made without the layer's help.
func of(n *big.Int) api.Int {
	out := api.Int{Neg: n.Sign() < 0}
	left := new(big.Int).Abs(n)
	for left.Sign() > 0 {
		out.Abs = append(out.Abs, uint32(left.Uint64()))
		left.Rsh(left, 32)
	}
	return out
}

// num is the number of a text that math/big takes.
func num(s string) api.Int {
	n, ok := new(big.Int).SetString(s, 10)
	if !ok {
		panic(s)
	}
	return of(n)
}

func isNormal(a api.Int) bool {
	n := len(a.Abs)
	return n == 0 && !a.Neg || n > 0 && a.Abs[n-1] != 0
}

// wantIs asks for that number, as a normal Int.
func wantIs(t *testing.T, what string, got api.Int, want *big.Int) {
	t.Helper()
	if !isNormal(got) || in(got).Cmp(want) != 0 {
		t.Fatalf("%s: %v, not %v", what, got, want)
	}
}

func wantNat(t *testing.T, what string, got api.Nat, want *big.Int) {
	t.Helper()
	wantIs(t, what, api.Int{Abs: got}, want)
}

func wantText(t *testing.T, what string, got api.Int, want string) {
	t.Helper()
	wantIs(t, what, got, in(num(want)))
}

func wantErr(t *testing.T, what string, got, want api.Errno) {
	t.Helper()
	if got != want {
		t.Fatalf("%s: error %d, not %d", what, got, want)
	}
}

// wantNothing: beside an error each Int is the zero value.
func wantNothing(t *testing.T, what string, e, want api.Errno, l ...api.Int) {
	t.Helper()
	wantErr(t, what, e, want)
	for _, a := range l {
		if a.Neg || len(a.Abs) > 0 {
			t.Fatalf("%s: %v beside an error", what, a)
		}
	}
}

func bigOf(n int64) *big.Int { return big.NewInt(n) }

// edges is numbers where something changes, of both signs, also 0 with Neg set and lists with noughts at their end.
func edges() []api.Int {
	var out []api.Int
	for _, abs := range []api.Nat{
		nil, {}, {0}, {0, 0}, {1}, {1, 0}, {2}, {3}, {4}, {5, 0, 0}, {6}, {7}, {12}, {18}, {24}, {25}, {0x80000000}, {full},
		{0, 1}, {1, 1}, {full, full}, {full, 0x7fffffff}, {0, 0x80000000}, {1, 0x80000000}, {0, 0, 1}, {0, 0, 1, 0}, {full, full, full}, {0, 0, 0x80000000},
	} {
		out = append(out, api.Int{Abs: abs}, api.Int{Neg: true, Abs: abs})
	}
	return out
}

// someInt has up to most limbs, at times with noughts at its end.
func someInt(r *rand.Rand, most int) api.Int {
	odd := [6]uint32{0, 1, full, full - 1, 0x80000000, 0x7fffffff}
	abs := make(api.Nat, r.Intn(most+1))
	kind := r.Intn(3)
	for i := range abs {
		abs[i] = r.Uint32()
		if kind == 0 {
			abs[i] = odd[r.Intn(len(odd))]
		}
	}
	if r.Intn(5) == 0 {
		abs = append(abs, 0, 0)
	}
	return api.Int{Neg: r.Intn(2) == 0, Abs: abs}
}

// eachPair hands on all pairs of edges, and pairs of many lengths, some with a common divisor, some near to one another or to a multiple.
func eachPair(do func(a, b api.Int)) {
	for _, a := range edges() {
		for _, b := range edges() {
			do(a, b)
		}
	}
	r := rand.New(rand.NewSource(2))
	for i := range 3000 {
		a, b := someInt(r, [4]int{1, 3, 8, 40}[i%4]), someInt(r, [5]int{1, 3, 8, 20, 60}[i%5])
		c := someInt(r, 3)
		switch i % 6 {
		case 0:
			a, b = of(new(big.Int).Mul(in(a), in(c))), of(new(big.Int).Mul(in(b), in(c)))
		case 1:
			b = of(new(big.Int).Add(in(a), bigOf(int64(i%5)-2)))
		case 2:
			a = of(new(big.Int).Add(new(big.Int).Mul(in(b), in(c)), bigOf(int64(i%3)-1)))
		}
		do(a, b)
	}
}

func eachInt(do func(a api.Int)) {
	eachPair(func(a, b api.Int) { do(a) })
}

// smallPairs hands on all pairs of numbers from -n to n.
func smallPairs(n int64, do func(a, b int64)) {
	for a := -n; a <= n; a++ {
		for b := -n; b <= n; b++ {
			do(a, b)
		}
	}
}

// triples are for the laws of three numbers.
func triples(do func(a, b, c api.Int)) {
	r := rand.New(rand.NewSource(3))
	l := []api.Int{{}, whole.Of(1), whole.Of(-1), whole.Of(-1 << 63), num("18446744073709551616"), num("-18446744073709551615")}
	for _, a := range l {
		for _, b := range l {
			for _, c := range l {
				do(a, b, c)
			}
		}
	}
	for range 1000 {
		do(someInt(r, 5), someInt(r, 5), someInt(r, 5))
	}
}
