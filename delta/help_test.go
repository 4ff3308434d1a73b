package delta_test

import (
	"math/big"
	"math/rand"
	"slices"
	"testing"

	"fulcrum/api"
	"fulcrum/delta"
	"fulcrum/whole"
)

const full = 0xffffffff

// pair is a number that is worked out by math/big alone: a + b d.
type pair struct{ a, b *big.Rat }

// natIn, ratIn and in are the numbers that a Nat, a Rat and a Delta are read as (DOC.md, 'How a number is read').
func natIn(n api.Nat) *big.Int {
	out := new(big.Int)
	for i := len(n) - 1; i >= 0; i-- {
		out.Lsh(out, 32).Or(out, big.NewInt(int64(n[i])))
	}
	return out
}

func ratIn(r api.Rat) *big.Rat {
	num, den := natIn(r.Num.Abs), natIn(r.Den)
	if den.Sign() == 0 {
		return new(big.Rat)
	}
	if r.Num.Neg {
		num.Neg(num)
	}
	return new(big.Rat).SetFrac(num, den)
}

func in(d api.Delta) pair { return pair{ratIn(d.A), ratIn(d.B)} }

// cmp is the order's words: its A is below, or the A are the same and its B is below.
func (p pair) cmp(q pair) int {
	switch {
	case p.a.Cmp(q.a) < 0, p.a.Cmp(q.a) == 0 && p.b.Cmp(q.b) < 0:
		return -1
	case p.a.Cmp(q.a) == 0 && p.b.Cmp(q.b) == 0:
		return 0
	}
	return 1
}

func (p pair) at(e *big.Rat) *big.Rat { return sum(p.a, product(p.b, e)) }

func sum(a, b *big.Rat) *big.Rat      { return new(big.Rat).Add(a, b) }
func less(a, b *big.Rat) *big.Rat     { return new(big.Rat).Sub(a, b) }
func product(a, b *big.Rat) *big.Rat  { return new(big.Rat).Mul(a, b) }
func quotient(a, b *big.Rat) *big.Rat { return new(big.Rat).Quo(a, b) }
func opposite(r *big.Rat) *big.Rat    { return new(big.Rat).Neg(r) }

// limbs, of and num make normal numbers without the program's help.
func limbs(n *big.Int) api.Nat {
	var out api.Nat
	for _, word := range n.Bits() {
		out = append(out, uint32(word), uint32(uint64(word)>>32))
	}
	for len(out) > 0 && out[len(out)-1] == 0 {
		out = out[:len(out)-1]
	}
	return out
}

func of(r *big.Rat) api.Rat {
	return api.Rat{Num: api.Int{Neg: r.Sign() < 0, Abs: limbs(r.Num())}, Den: limbs(r.Denom())}
}

func bigNum(s string) *big.Rat {
	r, ok := new(big.Rat).SetString(s)
	if !ok {
		panic(s)
	}
	return r
}

func num(s string) api.Rat { return of(bigNum(s)) }

func number(a, b string) api.Delta { return api.Delta{A: num(a), B: num(b)} }

func isNormal(r api.Rat) bool {
	want := of(ratIn(r))
	return r.Num.Neg == want.Num.Neg && slices.Equal(r.Num.Abs, want.Num.Abs) && slices.Equal(r.Den, want.Den)
}

func wantRat(t *testing.T, what string, got api.Rat, want *big.Rat) {
	t.Helper()
	if !isNormal(got) || ratIn(got).Cmp(want) != 0 {
		t.Fatalf("%s: %v, not %v", what, got, want)
	}
}

// wantIs asks for that number, both its parts normal.
func wantIs(t *testing.T, what string, got api.Delta, a, b *big.Rat) {
	t.Helper()
	wantRat(t, what+", A", got.A, a)
	wantRat(t, what+", B", got.B, b)
}

func wantErr(t *testing.T, what string, got, want api.Errno) {
	t.Helper()
	if got != want {
		t.Fatalf("%s: error %d, not %d", what, got, want)
	}
}

func isZero(r api.Rat) bool {
	return !r.Num.Neg && len(r.Num.Abs) == 0 && len(r.Den) == 0
}

func same(t *testing.T, what string, a, b api.Delta) {
	t.Helper()
	for _, c := range [][2]api.Rat{{a.A, b.A}, {a.B, b.B}} {
		if c[0].Num.Neg != c[1].Num.Neg || !slices.Equal(c[0].Num.Abs, c[1].Num.Abs) || !slices.Equal(c[0].Den, c[1].Den) {
			t.Fatalf("%s: %v and %v", what, a, b)
		}
	}
}

// zeros is all manner of ways to write 0 as a Rat: without a Den, with Neg set, with noughts at a list's end.
func zeros() []api.Rat {
	return []api.Rat{
		{}, {Num: whole.Of(5)}, {Num: whole.Of(-5), Den: api.Nat{0, 0}}, {Den: api.Nat{1}}, {Num: api.Int{Neg: true}, Den: api.Nat{3}},
		{Num: api.Int{Neg: true, Abs: api.Nat{0, 0}}, Den: api.Nat{4, 0}}, {Num: api.Int{Neg: true, Abs: api.Nat{full, full}}},
	}
}

// edges has numbers of both signs, some not in lowest terms, some with noughts at the end of lists; and all zeros.
func edges() []api.Rat {
	out := zeros()
	for _, c := range [][2]api.Nat{
		{{1}, {1}}, {{1, 0}, {1, 0, 0}}, {{1}, {2}}, {{2, 0}, {4, 0}}, {{7}, {2}}, {{10}, {5}}, {{1}, {full}}, {{0, 0, 1}, {0, 1}}, {{full, full, 0}, {1, 1}},
	} {
		out = append(out, api.Rat{Num: api.Int{Abs: c[0]}, Den: c[1]}, api.Rat{Num: api.Int{Neg: true, Abs: c[0]}, Den: c[1]})
	}
	return out
}

// edgeNumbers is all pairs of edges.
func edgeNumbers() []api.Delta {
	var out []api.Delta
	for _, a := range edges() {
		for _, b := range edges() {
			out = append(out, api.Delta{A: a, B: b})
		}
	}
	return out
}

func someNat(r *rand.Rand, most int) api.Nat {
	out := make(api.Nat, r.Intn(most+1))
	for i := range out {
		out[i] = [4]uint32{r.Uint32(), r.Uint32() % 7, full, 0}[r.Intn(4)]
	}
	return out
}

// someRat has up to most limbs in each part; it may be without a Den and not in lowest terms.
func someRat(r *rand.Rand, most int) api.Rat {
	out := api.Rat{Num: api.Int{Neg: r.Intn(2) == 0, Abs: someNat(r, most)}, Den: someNat(r, most)}
	if r.Intn(4) == 0 {
		times := whole.Of(1 + r.Int63n(30))
		out = api.Rat{Num: whole.Mul(out.Num, times), Den: whole.Mul(api.Int{Abs: out.Den}, times).Abs}
	}
	return out
}

func smallRat(r *rand.Rand) api.Rat {
	return of(big.NewRat(r.Int63n(9)-4, 1+r.Int63n(3)))
}

func someNumber(r *rand.Rand) api.Delta {
	switch most := [3]int{1, 3, 12}[r.Intn(3)]; r.Intn(4) {
	case 0:
		return api.Delta{A: smallRat(r), B: smallRat(r)}
	case 1:
		return api.Delta{A: zeros()[r.Intn(len(zeros()))], B: someRat(r, most)}
	default:
		return api.Delta{A: someRat(r, most), B: someRat(r, most)}
	}
}

func eachNumber(do func(d api.Delta)) {
	for _, d := range edgeNumbers() {
		do(d)
	}
	r := rand.New(rand.NewSource(1))
	for range 2000 {
		do(someNumber(r))
	}
}

// eachPair hands on pairs of edges, and pairs of which some have the same A, written otherwise, some the same B, some both.
func eachPair(do func(a, b api.Delta)) {
	l := edgeNumbers()
	for i, a := range l {
		for j := i % 7; j < len(l); j += 7 {
			do(a, l[j])
		}
	}
	r := rand.New(rand.NewSource(2))
	for i := range 3000 {
		a, b := someNumber(r), someNumber(r)
		if i%2 == 0 {
			b.A = otherwise(a.A)
		}
		if i%3 == 0 {
			b.B = otherwise(a.B)
		}
		do(a, b)
		do(b, a)
	}
}

// otherwise is the same number, not in lowest terms and with a nought at the end of its lists.
func otherwise(r api.Rat) api.Rat {
	three := whole.Of(3)
	return api.Rat{
		Num: api.Int{Neg: r.Num.Neg, Abs: append(whole.Mul(api.Int{Abs: r.Num.Abs}, three).Abs, 0)},
		Den: append(whole.Mul(api.Int{Abs: r.Den}, three).Abs, 0),
	}
}

func parsed(t *testing.T, s string) api.Delta {
	t.Helper()
	d, e := delta.Parse(s)
	wantErr(t, "Parse of "+s, e, api.OK)
	return d
}
