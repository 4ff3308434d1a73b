package ratio_test

import (
	"math/big"
	"math/rand"
	"slices"
	"testing"

	"fulcrum/api"
	"fulcrum/ratio"
	"fulcrum/whole"
)

func bigWhole(n *big.Int) *big.Rat { return new(big.Rat).SetInt(n) }

// expanded is Y3 in its own words.
func expanded(r *big.Rat) []*big.Int {
	down := floorOf(r)
	above := new(big.Rat).Sub(r, bigWhole(down))
	if above.Sign() == 0 {
		return []*big.Int{down}
	}
	return append([]*big.Int{down}, expanded(above.Inv(above))...)
}

// folded is Y3 in its own words.
func folded(l []*big.Int) *big.Rat {
	out := bigWhole(l[0])
	if len(l) > 1 {
		rest := folded(l[1:])
		out.Add(out, rest.Inv(rest))
	}
	return out
}

func TestY3Expand(t *testing.T) {
	eachRat(func(r api.Rat) { wantInts(t, "Expand", ratio.Expand(r), expanded(in(r))) })
	eachSmall(5, 40, func(r *big.Rat) { wantInts(t, "Expand", ratio.Expand(of(r)), expanded(r)) })
}

func TestY3ExpandAtItsEdges(t *testing.T) {
	for s, want := range map[string][]int64{
		"0": {0}, "1": {1}, "-1": {-1}, "-12": {-12}, "1/2": {0, 2}, "-1/2": {-1, 2}, "-1/3": {-1, 1, 2}, "-2/3": {-1, 3}, "3/2": {1, 2}, "-415/93": {-5, 1, 1, 6, 7},
	} {
		var numbers []*big.Int
		for _, n := range want {
			numbers = append(numbers, bigOf(n))
		}
		wantInts(t, "Expand of "+s, ratio.Expand(num(s)), numbers)
	}
	long := new(big.Int).Lsh(bigOf(1), 100000)
	wantInts(t, "Expand", ratio.Expand(of(bigWhole(long))), []*big.Int{long})
	wantInts(t, "Expand", ratio.Expand(of(new(big.Rat).SetFrac(bigOf(1), long))), []*big.Int{bigOf(0), long})
}

func TestY3ExpandIsOfOneShape(t *testing.T) {
	eachRat(func(r api.Rat) {
		l := ratio.Expand(r)
		for i, n := range l {
			least := bigOf(1)
			if i == len(l)-1 {
				least = bigOf(2)
			}
			if i > 0 && intIn(n).Cmp(least) < 0 {
				t.Fatalf("Expand of %v: %v", in(r), l)
			}
		}
	})
}

// eachList hands on all lists of up to most numbers from -2 to 3.
func eachList(most int, head []int64, do func(l []int64)) {
	do(head)
	if len(head) == most {
		return
	}
	for n := int64(-2); n <= 3; n++ {
		eachList(most, append(head[:len(head):len(head)], n), do)
	}
}

func TestY3Fold(t *testing.T) {
	eachList(5, nil, func(l []int64) {
		r, e := ratio.Fold(ints(l...))
		if len(l) == 0 || slices.ContainsFunc(l[1:], func(n int64) bool { return n < 1 }) {
			wantMade(t, "Fold", r, e, nil, api.ErrArg)
			return
		}
		var numbers []*big.Int
		for _, n := range l {
			numbers = append(numbers, bigOf(n))
		}
		wantMade(t, "Fold", r, e, folded(numbers), api.OK)
	})
}

func TestY3FoldOfLongNumbers(t *testing.T) {
	r := rand.New(rand.NewSource(33))
	for i := range 300 {
		l := []api.Int{someRat(r, 4).Num}
		numbers := []*big.Int{intIn(l[0])}
		for range i % 30 {
			n := whole.Add(api.Int{Abs: someNat(r, 4)}, whole.Of(1))
			numbers = append(numbers, intIn(n))
			n.Abs = append(n.Abs, make(api.Nat, r.Intn(3))...)
			l = append(l, n)
		}
		got, e := ratio.Fold(l)
		wantMade(t, "Fold", got, e, folded(numbers), api.OK)
	}
}

func TestY3FoldOfWrongNumbers(t *testing.T) {
	for _, wrong := range []api.Int{{}, {Neg: true}, {Abs: api.Nat{0, 0}}, whole.Of(-1), {Neg: true, Abs: api.Nat{0, 0, 1}}} {
		for _, l := range [][]api.Int{{whole.Of(1), wrong}, {wrong, whole.Of(1), wrong}, {whole.Of(3), whole.Of(2), wrong, whole.Of(2)}} {
			r, e := ratio.Fold(l)
			wantMade(t, "Fold", r, e, nil, api.ErrArg)
		}
		r, e := ratio.Fold([]api.Int{wrong})
		wantMade(t, "Fold", r, e, bigWhole(intIn(wrong)), api.OK)
		r, e = ratio.Fold([]api.Int{wrong, whole.Of(1)})
		wantMade(t, "Fold", r, e, bigWhole(intIn(whole.Add(wrong, whole.Of(1)))), api.OK)
	}
	for _, none := range [][]api.Int{nil, {}} {
		r, e := ratio.Fold(none)
		wantMade(t, "Fold of nothing", r, e, nil, api.ErrArg)
	}
}

func TestY9FoldOfExpand(t *testing.T) {
	eachRat(func(r api.Rat) {
		got, e := ratio.Fold(ratio.Expand(r))
		wantMade(t, "Fold of Expand", got, e, in(r), api.OK)
	})
}

func TestY9ExpandOfFold(t *testing.T) {
	eachList(5, nil, func(l []int64) {
		r, e := ratio.Fold(ints(l...))
		if e != api.OK {
			return
		}
		got := ratio.Expand(r)
		told := len(l) == 1 || l[len(l)-1] > 1
		alike := slices.EqualFunc(got, l, func(a api.Int, n int64) bool { return intIn(a).Cmp(bigOf(n)) == 0 })
		if told != alike {
			t.Errorf("Expand of Fold of %v: %v", l, got)
		}
	})
}

// simplest is Y4 in its own words: by rising Den, and of one Den by rising Abs of Num.
func simplest(lo, hi *big.Rat) *big.Rat {
	for den := int64(1); ; den++ {
		var best *big.Rat
		for n := floorOf(new(big.Rat).Mul(lo, big.NewRat(den, 1))).Int64(); big.NewRat(n, den).Cmp(hi) < 0; n++ {
			r := big.NewRat(n, den)
			if r.Cmp(lo) > 0 && (best == nil || r.Num().CmpAbs(best.Num()) < 0) {
				best = r
			}
		}
		if best != nil {
			return best
		}
	}
}

func TestY4SimplestOfSmallNumbers(t *testing.T) {
	var l []*big.Rat
	eachSmall(3, 7, func(r *big.Rat) { l = append(l, r) })
	for _, lo := range l {
		for _, hi := range l {
			got, e := ratio.Simplest(of(lo), of(hi))
			if lo.Cmp(hi) >= 0 {
				wantMade(t, "Simplest", got, e, nil, api.ErrOrder)
			} else {
				wantMade(t, "Simplest", got, e, simplest(lo, hi), api.OK)
			}
		}
	}
}

func TestY4SimplestOfNearNumbers(t *testing.T) {
	r := rand.New(rand.NewSource(44))
	for range 1000 {
		lo := big.NewRat(r.Int63n(4000)-2000, r.Int63n(300)+1)
		hi := new(big.Rat).Add(lo, big.NewRat(1, r.Int63n(3000)+1))
		got, e := ratio.Simplest(of(lo), of(hi))
		wantMade(t, "Simplest", got, e, simplest(lo, hi), api.OK)
	}
}

func TestY4SimplestAtItsEdges(t *testing.T) {
	for _, c := range [][3]string{
		{"0", "1", "1/2"}, {"-1", "0", "-1/2"}, {"0", "2", "1"}, {"-2", "0", "-1"}, {"0", "1/10", "1/11"}, {"-1/10", "0", "-1/11"}, {"-5", "10", "0"}, {"-10", "5", "0"},
		{"7", "8", "15/2"}, {"-8", "-7", "-15/2"}, {"5/2", "3", "8/3"}, {"2", "5/2", "7/3"}, {"5/2", "7/2", "3"}, {"99/100", "101/100", "1"}, {"3/2", "100", "2"}, {"-100", "-3/2", "-2"},
		{"1/3", "2/3", "1/2"}, {"1", "18446744073709551617/18446744073709551616", "18446744073709551618/18446744073709551617"}, {"-1/18446744073709551616", "1/18446744073709551616", "0"},
	} {
		r, e := ratio.Simplest(num(c[0]), num(c[1]))
		wantText(t, "Simplest", r, e, c[2])
	}
}

// What Y9 says of Simplest, of long numbers too. A number with the least Den, and with the least Abs of Num of those with one Den, has both of the numbers of whose parts it is the sum at the ends or beyond.
func TestY9NothingSimplerLiesBetween(t *testing.T) {
	eachPair(func(a, b api.Rat) {
		lo, hi := in(a), in(b)
		got, e := ratio.Simplest(a, b)
		if lo.Cmp(hi) >= 0 {
			wantMade(t, "Simplest", got, e, nil, api.ErrOrder)
			return
		}
		x := in(got)
		wantMade(t, "Simplest", got, e, x, api.OK)
		if x.Cmp(lo) <= 0 || x.Cmp(hi) >= 0 {
			t.Fatalf("Simplest of %v and %v: %v", lo, hi, x)
		}
		if x.IsInt() {
			near := new(big.Rat).Sub(x, big.NewRat(int64(x.Sign()), 1)) // the next whole number towards 0
			if x.Sign() != 0 && near.Cmp(lo) > 0 && near.Cmp(hi) < 0 {
				t.Fatalf("Simplest of %v and %v: %v, not %v", lo, hi, x, near)
			}
			return
		}
		for _, parent := range parents(x) {
			if parent.Cmp(lo) > 0 && parent.Cmp(hi) < 0 {
				t.Fatalf("Simplest of %v and %v: %v, not %v", lo, hi, x, parent)
			}
		}
	})
}

// parents is the two numbers, next to x among those with a less Den, whose parts sum up to those of x, which is not whole.
func parents(x *big.Rat) [2]*big.Rat {
	den := new(big.Int).ModInverse(x.Num(), x.Denom()) // num den - 1 is a multiple of x's Den
	n := new(big.Int).Mul(x.Num(), den)
	n.Sub(n, bigOf(1)).Quo(n, x.Denom())
	below := new(big.Rat).SetFrac(n, den)
	above := new(big.Rat).SetFrac(new(big.Int).Sub(x.Num(), n), new(big.Int).Sub(x.Denom(), den))
	return [2]*big.Rat{below, above}
}

func distance(a, b *big.Rat) *big.Rat {
	d := new(big.Rat).Sub(a, b)
	return d.Abs(d)
}

// best is Y5 in its own words: of each Den the two numbers around r, the lower one first.
func best(r *big.Rat, most int64) *big.Rat {
	var out *big.Rat
	for den := int64(1); den <= most; den++ {
		down := floorOf(new(big.Rat).Mul(r, big.NewRat(den, 1)))
		for _, n := range []*big.Int{down, new(big.Int).Add(down, bigOf(1))} {
			x := new(big.Rat).SetFrac(n, bigOf(den))
			if out == nil || distance(x, r).Cmp(distance(out, r)) < 0 {
				out = x
			}
		}
	}
	return out
}

func TestY5BestOfSmallNumbers(t *testing.T) {
	eachSmall(2, 24, func(r *big.Rat) {
		for most := int64(1); most <= 26; most++ {
			got, e := ratio.Best(of(r), intOf(bigOf(most)).Abs)
			wantMade(t, "Best", got, e, best(r, most), api.OK)
		}
	})
}

func TestY5BestOfSomeNumbers(t *testing.T) {
	r := rand.New(rand.NewSource(55))
	for range 400 {
		x, most := in(someRat(r, 3)), r.Int63n(200)+1
		got, e := ratio.Best(of(x), intOf(bigOf(most)).Abs)
		wantMade(t, "Best", got, e, best(x, most), api.OK)
	}
}

func TestY5BestAtItsEdges(t *testing.T) {
	for _, c := range []struct {
		r    string
		most api.Nat
		want string
	}{
		{"1/2", api.Nat{1}, "0"}, {"-1/2", api.Nat{1}, "-1"}, {"3/2", api.Nat{1}, "1"}, {"-3/2", api.Nat{1}, "-2"}, {"2/3", api.Nat{1}, "1"}, {"-2/3", api.Nat{1}, "-1"}, {"1/3", api.Nat{1}, "0"},
		{"7/12", api.Nat{3}, "1/2"}, {"-7/12", api.Nat{3}, "-1/2"}, {"5/12", api.Nat{3}, "1/2"}, {"5/7", api.Nat{6}, "3/4"}, {"5/7", api.Nat{7}, "5/7"}, {"5/7", api.Nat{8}, "5/7"}, {"5/7", api.Nat{9, 0}, "5/7"},
		{"0", api.Nat{1}, "0"}, {"12", api.Nat{1}, "12"}, {"-12", api.Nat{0, 1}, "-12"}, {"1/18446744073709551616", api.Nat{full, full}, "1/18446744073709551615"}, {"1/18446744073709551616", api.Nat{0, 0, 1}, "1/18446744073709551616"},
		{"1/4", api.Nat{2}, "0"}, {"-1/4", api.Nat{2}, "0"}, {"3/4", api.Nat{2}, "1"},
	} {
		r, e := ratio.Best(num(c.r), c.most)
		wantText(t, "Best of "+c.r, r, e, c.want)
	}
	for _, none := range noughts() {
		for _, r := range edges() {
			got, e := ratio.Best(r, none)
			wantMade(t, "Best", got, e, nil, api.ErrZero)
		}
	}
}

// What Y9 says of Best, of long numbers too: with its own Den as most it is the number; else it is at most most, and as near as the nearest numbers on both sides.
func TestY9NothingIsNearerThanBest(t *testing.T) {
	eachPair(func(a, b api.Rat) {
		r, most := in(a), natIn(b.Den)
		if most.Sign() == 0 {
			return
		}
		own, e := ratio.Best(a, ratio.Norm(a).Den)
		wantMade(t, "Best", own, e, r, api.OK)
		got, e := ratio.Best(a, b.Den)
		x := in(got)
		wantMade(t, "Best", got, e, x, api.OK)
		if r.Denom().Cmp(most) <= 0 {
			wantIs(t, "Best", got, r)
			return
		}
		if x.Denom().Cmp(most) > 0 {
			t.Fatalf("Best of %v up to %v: %v", r, most, x)
		}
		for _, y := range around(r, most) {
			if c := distance(x, r).Cmp(distance(y, r)); c > 0 || c == 0 && x.Denom().Cmp(y.Denom()) > 0 {
				t.Fatalf("Best of %v up to %v: %v, not %v", r, most, x, y)
			}
		}
	})
}

// around is the nearest numbers below and above r whose Den is at most most; r's own is above that. They are found by going from both whole numbers around r to the sum of their parts, as often at once as it goes.
func around(r *big.Rat, most *big.Int) [2]*big.Rat {
	down := floorOf(r)
	lo, hi := [2]*big.Int{down, bigOf(1)}, [2]*big.Int{new(big.Int).Add(down, bigOf(1)), bigOf(1)}
	for moved := true; moved; {
		moved = false
		for _, ends := range [2][2]*[2]*big.Int{{&lo, &hi}, {&hi, &lo}} {
			times := new(big.Int).Quo(gapOf(r, ends[0]), gapOf(r, ends[1])) // so often this end stays on its side of r
			room := new(big.Int).Sub(most, ends[0][1])
			room.Quo(room, ends[1][1])
			if room.Cmp(times) < 0 {
				times = room
			}
			if times.Sign() > 0 {
				moved = true
				ends[0][0] = new(big.Int).Add(ends[0][0], new(big.Int).Mul(times, ends[1][0]))
				ends[0][1] = new(big.Int).Add(ends[0][1], new(big.Int).Mul(times, ends[1][1]))
			}
		}
	}
	return [2]*big.Rat{new(big.Rat).SetFrac(lo[0], lo[1]), new(big.Rat).SetFrac(hi[0], hi[1])}
}

// gapOf is how far r is from an end, times both Dens.
func gapOf(r *big.Rat, end *[2]*big.Int) *big.Int {
	d := new(big.Int).Mul(r.Num(), end[1])
	d.Sub(d, new(big.Int).Mul(end[0], r.Denom()))
	return d.Abs(d)
}
