package approx_test

import (
	"math"
	"math/big"
	"math/rand"
	"testing"

	"fulcrum/api"
	"fulcrum/approx"
	"fulcrum/ratio"
)

const (
	least    = math.SmallestNonzeroFloat64
	greatest = math.MaxFloat64
	normal   = 0x1p-1022 // the floats below it have fewer bits
	signBit  = 1 << 63
	leadBit  = 1 << 52
)

var (
	infinite  = math.Inf(1)
	minusZero = math.Copysign(0, -1)
)

// notNumbers has more than one way to be not-a-number.
func notNumbers() []float64 {
	return []float64{math.NaN(), -math.NaN(), math.Float64frombits(0x7ff0000000000001), math.Float64frombits(0xffffffffffffffff)}
}

// eachNoNumber hands on the floats that are no numbers, with their errors.
func eachNoNumber(do func(f float64, want api.Errno)) {
	for _, f := range notNumbers() {
		do(f, api.ErrNaN)
	}
	do(infinite, api.ErrInf)
	do(-infinite, api.ErrInf)
}

// of and in lead from math/big to the program's numbers and back. (With noughts at the end of some lists, which count for nothing.)
func of(r *big.Rat) api.Rat {
	return api.Rat{Num: api.Int{Neg: r.Sign() < 0, Abs: limbs(r.Num())}, Den: limbs(r.Denom())}
}

func limbs(n *big.Int) api.Nat {
	var out api.Nat
	for _, word := range n.Bits() {
		out = append(out, uint32(word), uint32(uint64(word)>>32))
	}
	return out
}

func in(r api.Rat) *big.Rat {
	return num(ratio.Text(r))
}

func num(s string) *big.Rat {
	r, ok := new(big.Rat).SetString(s)
	if !ok {
		panic(s)
	}
	return r
}

// two is 2 to the n.
func two(n int) *big.Rat {
	out := new(big.Int).Lsh(big.NewInt(1), uint(max(n, -n)))
	if n < 0 {
		return new(big.Rat).SetFrac(big.NewInt(1), out)
	}
	return new(big.Rat).SetInt(out)
}

func exact(f float64) *big.Rat { return new(big.Rat).SetFloat64(f) }

func sum(l ...*big.Rat) *big.Rat {
	out := new(big.Rat)
	for _, r := range l {
		out.Add(out, r)
	}
	return out
}

func product(a, b *big.Rat) *big.Rat { return new(big.Rat).Mul(a, b) }
func opposite(r *big.Rat) *big.Rat   { return new(big.Rat).Neg(r) }
func distance(a, b *big.Rat) *big.Rat {
	out := sum(a, opposite(b))
	return out.Abs(out)
}

// overflow is where Nearest begins to be infinite: 2^1024 - 2^970.
func overflow() *big.Rat { return sum(two(1024), opposite(two(970))) }

func same(t *testing.T, what string, got, want float64) {
	t.Helper()
	if math.Float64bits(got) != math.Float64bits(want) {
		t.Fatalf("%s: %v (%x), not %v (%x)", what, got, math.Float64bits(got), want, math.Float64bits(want))
	}
}

// wantFloat asks for that float beside no error, and for 0 beside an error.
func wantFloat(t *testing.T, what string, got float64, e api.Errno, want float64, wantE api.Errno) {
	t.Helper()
	wantErr(t, what, e, wantE)
	same(t, what, got, want)
}

func wantSpan(t *testing.T, what string, got api.Span, e api.Errno, want api.Span, wantE api.Errno) {
	t.Helper()
	wantErr(t, what, e, wantE)
	same(t, what+", Lo", got.Lo, want.Lo)
	same(t, what+", Hi", got.Hi, want.Hi)
}

func wantErr(t *testing.T, what string, got, want api.Errno) {
	t.Helper()
	if got != want {
		t.Fatalf("%s: error %d, not %d", what, got, want)
	}
}

func wantRead(t *testing.T, s string, want float64) {
	t.Helper()
	f, e := approx.Read(s)
	wantFloat(t, "Read of "+s, f, e, want, api.OK)
}

func wantShort(t *testing.T, f float64, want string) {
	t.Helper()
	if s, e := approx.Short(f); e != api.OK || s != want {
		t.Fatalf("Short of %v: %q, error %d, not %q", f, s, e, want)
	}
}

// edges has finite floats where something changes, of both signs.
func edges() []float64 {
	var out []float64
	for _, f := range []float64{
		0, least, 2 * least, 3 * least, 4 * least, 5 * least,
		before(normal), normal, after(normal), 2 * normal, before(2 * normal), after(2 * normal),
		0.1, 0.3, before(1), 1, after(1), 1.5, before(2), 2, 10, 123.456, 1 << 52, 1<<53 - 1, 1 << 53, 1<<53 + 2, 1 << 54,
		0x1p1023, before(0x1p1023), before(before(greatest)), before(greatest), greatest,
	} {
		out = append(out, f, -f)
	}
	out[1] = minusZero // -0, which a constant can't be
	return out
}

func after(f float64) float64  { return math.Nextafter(f, infinite) }
func before(f float64) float64 { return math.Nextafter(f, -infinite) }

// eachFinite hands on the edges, all powers of 2 with their neighbours, and floats of all sizes, of both signs.
func eachFinite(do func(f float64)) {
	for _, f := range edges() {
		do(f)
	}
	for exp := -1074; exp <= 1023; exp++ {
		f := math.Ldexp(1, exp)
		for _, near := range []float64{f, before(f), after(f)} {
			do(near)
			do(-near)
		}
	}
	r := rand.New(rand.NewSource(1))
	for i := range 3000 {
		f := math.Float64frombits(r.Uint64())
		if i%4 == 0 {
			f = math.Float64frombits(r.Uint64() & (signBit | leadBit<<2 - 1) >> r.Intn(50))
		}
		if !math.IsNaN(f) && !math.IsInf(f, 0) {
			do(f)
		}
	}
}

// eachNumber hands on numbers at floats and just beside them, at halves between two neighbours and just beside them, beyond all floats, and some others; of both signs.
func eachNumber(do func(r *big.Rat)) {
	r := rand.New(rand.NewSource(2))
	both := func(x *big.Rat) {
		do(x)
		do(opposite(x))
	}
	around := func(x *big.Rat, tiny int) {
		both(x)
		both(sum(x, two(tiny)))
		both(sum(x, opposite(two(tiny))))
	}
	each := func(f float64, tiny int) {
		around(exact(f), tiny)
		if f < greatest {
			around(product(sum(exact(f), exact(after(f))), two(-1)), tiny)
		}
	}
	for _, f := range edges() {
		each(math.Abs(f), -1200)
	}
	for i := range 300 {
		f := math.Float64frombits(r.Uint64() &^ signBit)
		if i%3 == 0 {
			f = math.Float64frombits(r.Uint64() % (leadBit << 1) >> r.Intn(50))
		}
		if !math.IsNaN(f) && !math.IsInf(f, 0) {
			each(f, [3]int{-1076, -1500, -3000}[i%3])
		}
	}
	around(overflow(), -1100)
	around(two(1024), 900)
	around(two(2000), 1999)
	around(two(-1075), -1076)
	around(two(-1080), -1200)
	for range 600 {
		both(product(two(r.Intn(2200)-1100), big.NewRat(r.Int63(), 1+r.Int63())))
	}
}

// place is the two floats around r as P4.3 has it, found by halving the floats of its side of 0, and the sign of a zero.
func place(r *big.Rat) (down, up float64) {
	if r.Sign() < 0 {
		down, up = place(opposite(r))
		return -up, -down
	}
	lo, hi := uint64(0), uint64(0x7ff0000000000000) // r is from lo on and below hi
	for hi-lo > 1 {
		mid := lo + (hi-lo)/2
		if exact(math.Float64frombits(mid)).Cmp(r) <= 0 {
			lo = mid
		} else {
			hi = mid
		}
	}
	down, up = math.Float64frombits(lo), math.Float64frombits(hi)
	if exact(down).Cmp(r) == 0 {
		return down, down
	}
	return down, up
}

// nearest is P4.2 in its own words.
func nearest(r *big.Rat) float64 {
	down, up := place(r)
	switch {
	case r.Cmp(overflow()) >= 0:
		return infinite
	case r.Cmp(opposite(overflow())) <= 0:
		return -infinite
	case up == infinite:
		return down
	case down == -infinite:
		return up
	}
	order := distance(exact(down), r).Cmp(distance(exact(up), r))
	if order < 0 || order == 0 && math.Float64bits(down)&1 == 0 {
		return down
	}
	return up
}
