package ratio_test

import (
	"math/big"
	"math/rand"
	"testing"

	"fulcrum/api"
	"fulcrum/ratio"
	"fulcrum/whole"
)

const full = 0xffffffff

func bigOf(n int64) *big.Int { return big.NewInt(n) }

// natIn and in are the numbers that a Nat, and a Rat, is read as (DOC.md, 'How a number is read').
func natIn(a api.Nat) *big.Int {
	out := new(big.Int)
	for i := len(a) - 1; i >= 0; i-- {
		out.Lsh(out, 32).Or(out, bigOf(int64(a[i])))
	}
	return out
}

func intIn(a api.Int) *big.Int {
	out := natIn(a.Abs)
	if a.Neg {
		out.Neg(out)
	}
	return out
}

func in(r api.Rat) *big.Rat {
	den := natIn(r.Den)
	if den.Sign() == 0 {
		return new(big.Rat)
	}
	return new(big.Rat).SetFrac(intIn(r.Num), den)
}

// intOf and of make normal numbers without the layer's help.
func intOf(n *big.Int) api.Int {
	out := api.Int{Neg: n.Sign() < 0}
	for _, word := range n.Bits() {
		out.Abs = append(out.Abs, uint32(word), uint32(uint64(word)>>32))
	}
	if k := len(out.Abs); k > 0 && out.Abs[k-1] == 0 {
		out.Abs = out.Abs[:k-1]
	}
	return out
}

func of(r *big.Rat) api.Rat {
	return api.Rat{Num: intOf(r.Num()), Den: intOf(r.Denom()).Abs}
}

// num is the number of a text that math/big takes.
func num(s string) api.Rat {
	r, ok := new(big.Rat).SetString(s)
	if !ok {
		panic(s)
	}
	return of(r)
}

func ints(l ...int64) []api.Int {
	var out []api.Int
	for _, n := range l {
		out = append(out, intOf(bigOf(n)))
	}
	return out
}

func isNormalInt(a api.Int) bool {
	n := len(a.Abs)
	return n == 0 && !a.Neg || n > 0 && a.Abs[n-1] != 0
}

func isNormal(r api.Rat) bool {
	common := new(big.Int).GCD(nil, nil, natIn(r.Num.Abs), natIn(r.Den))
	return isNormalInt(r.Num) && isNormalInt(api.Int{Abs: r.Den}) && len(r.Den) > 0 && common.Cmp(bigOf(1)) == 0
}

// wantIs asks for that number, as a normal Rat.
func wantIs(t *testing.T, what string, got api.Rat, want *big.Rat) {
	t.Helper()
	if !isNormal(got) || in(got).Cmp(want) != 0 {
		t.Fatalf("%s: %v, not %v", what, got, want)
	}
}

// wantMade asks for that number beside no error, and for nothing beside an error.
func wantMade(t *testing.T, what string, got api.Rat, e api.Errno, want *big.Rat, wantE api.Errno) {
	t.Helper()
	wantErr(t, what, e, wantE)
	switch {
	case e == api.OK:
		wantIs(t, what, got, want)
	case got.Num.Neg || len(got.Num.Abs) > 0 || len(got.Den) > 0:
		t.Fatalf("%s: %v beside an error", what, got)
	}
}

func wantText(t *testing.T, what string, got api.Rat, e api.Errno, want string) {
	t.Helper()
	wantMade(t, what, got, e, in(num(want)), api.OK)
}

func wantInt(t *testing.T, what string, got api.Int, want *big.Int) {
	t.Helper()
	if !isNormalInt(got) || intIn(got).Cmp(want) != 0 {
		t.Fatalf("%s: %v, not %v", what, got, want)
	}
}

func wantInts(t *testing.T, what string, got []api.Int, want []*big.Int) {
	t.Helper()
	if len(got) != len(want) {
		t.Fatalf("%s: %v, not %v", what, got, want)
	}
	for i := range got {
		wantInt(t, what, got[i], want[i])
	}
}

func wantErr(t *testing.T, what string, got, want api.Errno) {
	t.Helper()
	if got != want {
		t.Fatalf("%s: error %d, not %d", what, got, want)
	}
}

// noughts is all manner of ways to write 0 as a Nat.
func noughts() []api.Nat {
	return []api.Nat{nil, {}, {0}, {0, 0, 0}}
}

// edges has numbers where something changes, of both signs: also without a Den, not in lowest terms, 0 with Neg set, and with noughts at the end of lists.
func edges() []api.Rat {
	var out []api.Rat
	for _, c := range [][2]api.Nat{
		{{5}, nil}, {{5}, {0, 0}}, {nil, nil}, {nil, {1}}, {{0}, {7, 0}}, {{0, 0}, {full, full}},
		{{1}, {1}}, {{1, 0}, {1, 0, 0}}, {{1}, {2}}, {{2, 0}, {4, 0}}, {{3}, {2}}, {{6}, {4}}, {{7}, {2}}, {{2}, {3}}, {{1}, {3}}, {{2}, {1}}, {{10}, {5}},
		{{full}, {1}}, {{1}, {full}}, {{full}, {full}}, {{0, 1}, {full}}, {{full, full}, {1, 1}}, {{0, 0, 1}, {0, 1}}, {{0, 1}, {0, 0, 1, 0}}, {{1, 0, 1}, {0, 0x80000000}}, {{415}, {93}},
	} {
		out = append(out, api.Rat{Num: api.Int{Abs: c[0]}, Den: c[1]}, api.Rat{Num: api.Int{Neg: true, Abs: c[0]}, Den: c[1]})
	}
	return out
}

func someNat(r *rand.Rand, most int) api.Nat {
	odd := [6]uint32{0, 1, full, full - 1, 0x80000000, 2}
	out := make(api.Nat, r.Intn(most+1))
	kind := r.Intn(3)
	for i := range out {
		out[i] = r.Uint32()
		if kind == 0 {
			out[i] = odd[r.Intn(len(odd))]
		}
	}
	if r.Intn(5) == 0 {
		out = append(out, 0, 0)
	}
	return out
}

// someRat has up to most limbs in each part.
func someRat(r *rand.Rand, most int) api.Rat {
	return api.Rat{Num: api.Int{Neg: r.Intn(2) == 0, Abs: someNat(r, most)}, Den: someNat(r, most)}
}

// eachPair hands on all pairs of edges, and pairs of many lengths, some with a common Den, some near to one another, some not in lowest terms.
func eachPair(do func(a, b api.Rat)) {
	for _, a := range edges() {
		for _, b := range edges() {
			do(a, b)
		}
	}
	r := rand.New(rand.NewSource(3))
	for i := range 1500 {
		a, b := someRat(r, [4]int{1, 2, 5, 20}[i%4]), someRat(r, [3]int{1, 3, 12}[i%3])
		switch i % 5 {
		case 0:
			b.Den = a.Den
		case 1:
			near := new(big.Rat).SetFrac(bigOf(int64(i%7)-3), new(big.Int).Lsh(bigOf(1), uint(i%90)))
			b = of(near.Add(near, in(a)))
		case 2:
			times := someRat(r, 2).Num
			a = api.Rat{Num: whole.Mul(a.Num, times), Den: whole.Mul(api.Int{Abs: a.Den}, times).Abs}
		}
		do(a, b)
	}
}

func eachRat(do func(r api.Rat)) {
	for _, r := range edges() {
		do(r)
	}
	eachSmall(9, 9, func(r *big.Rat) { do(of(r)) })
	r := rand.New(rand.NewSource(4))
	for i := range 1500 {
		do(someRat(r, [4]int{1, 2, 6, 40}[i%4]))
	}
}

// eachSmall hands on all numbers from -most to most whose Den is at most den, some of them more than once.
func eachSmall(most, den int64, do func(r *big.Rat)) {
	for d := int64(1); d <= den; d++ {
		for n := -most * d; n <= most*d; n++ {
			do(big.NewRat(n, d))
		}
	}
}

// triples are for the laws of three numbers.
func triples(do func(a, b, c api.Rat)) {
	l := []api.Rat{{}, num("1"), num("-1"), num("1/2"), num("-7/3"), num("18446744073709551616/3"), {Num: whole.Of(-6), Den: api.Nat{4, 0}}, {Num: whole.Of(5)}}
	for _, a := range l {
		for _, b := range l {
			for _, c := range l {
				do(a, b, c)
			}
		}
	}
	r := rand.New(rand.NewSource(5))
	for range 500 {
		do(someRat(r, 4), someRat(r, 4), someRat(r, 4))
	}
}

// floorOf is the greatest whole number that is not above r.
func floorOf(r *big.Rat) *big.Int {
	return new(big.Int).Div(r.Num(), r.Denom()) // math/big's Div is down where the Den is above 0
}

func parsed(t *testing.T, s string) api.Rat {
	t.Helper()
	r, e := ratio.Parse(s)
	wantErr(t, "Parse of "+s, e, api.OK)
	return r
}
