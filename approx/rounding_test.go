package approx_test

import (
	"math"
	"math/big"
	"reflect"
	"slices"
	"testing"

	"fulcrum/api"
	"fulcrum/approx"
	"fulcrum/nat"
	"fulcrum/ratio"
	"fulcrum/whole"
)

func TestP4_1Exact(t *testing.T) {
	eachFinite(func(f float64) {
		r, e := approx.Exact(f)
		wantErr(t, "Exact", e, api.OK)
		if in(r).Cmp(exact(f)) != 0 || !reflect.DeepEqual(r, ratio.Norm(r)) {
			t.Fatalf("Exact of %v: %v", f, r)
		}
	})
}

func TestP4_1ExactOfNoNumber(t *testing.T) {
	eachNoNumber(func(f float64, want api.Errno) {
		r, e := approx.Exact(f)
		wantErr(t, "Exact", e, want)
		if !reflect.DeepEqual(r, api.Rat{}) {
			t.Errorf("Exact of %v: %v", f, r)
		}
	})
}

func TestP4_2Nearest(t *testing.T) {
	eachNumber(func(r *big.Rat) {
		got := approx.Nearest(of(r))
		same(t, "Nearest of "+r.String(), got, nearest(r))
		other, _ := r.Float64()
		same(t, "Nearest of "+r.String(), got, other)
	})
}

func TestP4_2NearestAtTheGreatest(t *testing.T) {
	for _, tiny := range []int{969, 0, -1, -1100} {
		below := sum(overflow(), opposite(two(tiny)))
		same(t, "just below", approx.Nearest(of(below)), greatest)
		same(t, "just above it, below 0", approx.Nearest(of(opposite(below))), -greatest)
		above := sum(overflow(), two(tiny))
		same(t, "just above", approx.Nearest(of(above)), infinite)
		same(t, "just below it, below 0", approx.Nearest(of(opposite(above))), -infinite)
	}
	same(t, "at it", approx.Nearest(of(overflow())), infinite)
	same(t, "at it, below 0", approx.Nearest(of(opposite(overflow()))), -infinite)
	same(t, "2^1024", approx.Nearest(of(two(1024))), infinite)
	same(t, "far beyond", approx.Nearest(of(opposite(two(100000)))), -infinite)
}

func TestP4_2NearestAtTheLeast(t *testing.T) {
	for _, c := range []struct {
		r    *big.Rat
		want float64
	}{
		{two(-1075), 0}, {two(-1076), 0}, {two(-100000), 0},
		{sum(two(-1075), opposite(two(-3000))), 0}, {sum(two(-1075), two(-3000)), least},
		{product(two(-1075), num("3")), 2 * least}, {product(two(-1075), num("5")), 2 * least}, {product(two(-1075), num("7")), 4 * least},
		{sum(two(-1022), opposite(two(-1075))), normal},
		{sum(two(-1022), opposite(two(-1075)), opposite(two(-2000))), before(normal)},
		{sum(two(-1022), two(-1075)), normal},
		{sum(two(-1022), two(-1075), two(-2000)), after(normal)},
	} {
		same(t, "Nearest of "+c.r.String(), approx.Nearest(of(c.r)), c.want)
		same(t, "below 0", approx.Nearest(of(opposite(c.r))), math.Copysign(c.want, -1))
	}
}

// A single bit, thousands of limbs behind the others, decides: beyond the greatest shift too.
func TestP4_2LongNumbers(t *testing.T) {
	for _, limbs := range []int{2, 40, 1000, 40000} {
		den := append(make(api.Nat, limbs), 1)
		for _, c := range []struct {
			half         uint64
			down, up, at float64
		}{
			{1<<54 + 2, 1 << 54, 1<<54 + 4, 1 << 54},
			{1<<54 + 6, 1<<54 + 4, 1<<54 + 8, 1<<54 + 8},
		} {
			at := append(make(api.Nat, limbs), nat.Of(c.half)...)
			above := slices.Clone(at)
			above[0] = 1
			below, _ := nat.Sub(at, api.Nat{1})
			for _, neg := range []bool{false, true} {
				signed := func(f float64) float64 {
					if neg {
						return -f
					}
					return f
				}
				r := func(n api.Nat) api.Rat { return api.Rat{Num: api.Int{Neg: neg, Abs: n}, Den: den} }
				same(t, "at half", approx.Nearest(r(at)), signed(c.at))
				same(t, "above half", approx.Nearest(r(above)), signed(c.up))
				same(t, "below half", approx.Nearest(r(below)), signed(c.down))
			}
		}
		one := append(make(api.Nat, limbs), 1)
		one[0] = 1
		same(t, "Up of just above 1", approx.Up(api.Rat{Num: api.Int{Abs: one}, Den: den}), after(1))
		same(t, "Down of just above 1", approx.Down(api.Rat{Num: api.Int{Abs: one}, Den: den}), 1)
		same(t, "Up of just below 1", approx.Up(api.Rat{Num: api.Int{Abs: den}, Den: one}), 1)
		same(t, "Down of just below 1", approx.Down(api.Rat{Num: api.Int{Abs: den}, Den: one}), before(1))
		if limbs > 40 {
			huge, tiny := api.Rat{Num: api.Int{Neg: true, Abs: den}, Den: api.Nat{1}}, api.Rat{Num: whole.Of(-1), Den: den}
			same(t, "Nearest of a huge one", approx.Nearest(huge), -infinite)
			same(t, "Up of a huge one", approx.Up(huge), -greatest)
			same(t, "Nearest of a tiny one", approx.Nearest(tiny), minusZero)
			same(t, "Down of a tiny one", approx.Down(tiny), -least)
		}
	}
}

// However a number is written: without a Den, with a sign at 0, not in lowest terms, with noughts at the end.
func TestP4_2NumbersAreReadAsTheyAre(t *testing.T) {
	all := map[string]func(api.Rat) float64{"Nearest": approx.Nearest, "Down": approx.Down, "Up": approx.Up}
	for name, round := range all {
		for _, r := range []api.Rat{
			{}, {Num: whole.Of(-5)}, {Num: whole.Of(7), Den: api.Nat{0, 0}}, {Num: api.Int{Neg: true}, Den: api.Nat{3}}, {Num: api.Int{Neg: true, Abs: api.Nat{0, 0}}, Den: api.Nat{1, 0}},
		} {
			same(t, name, round(r), 0)
		}
		same(t, name, round(api.Rat{Num: api.Int{Neg: true, Abs: api.Nat{18, 0, 0}}, Den: api.Nat{12, 0}}), -1.5)
	}
	for _, limbs := range []int{1, 3, 70} {
		times := make(api.Nat, limbs)
		for i := range times {
			times[i] = uint32(7 * (i + 1))
		}
		eachNumber(func(r *big.Rat) {
			plain := of(r)
			long := api.Rat{Num: api.Int{Neg: plain.Num.Neg, Abs: append(nat.Mul(plain.Num.Abs, times), 0, 0)}, Den: append(nat.Mul(plain.Den, times), 0)}
			same(t, "Nearest", approx.Nearest(long), approx.Nearest(plain))
			same(t, "Down", approx.Down(long), approx.Down(plain))
			same(t, "Up", approx.Up(long), approx.Up(plain))
		})
	}
}

func TestP4_3DownAndUp(t *testing.T) {
	eachNumber(func(r *big.Rat) {
		down, up := place(r)
		same(t, "Down of "+r.String(), approx.Down(of(r)), down)
		same(t, "Up of "+r.String(), approx.Up(of(r)), up)
	})
}

func TestP4_3DownAndUpAtTheirEdges(t *testing.T) {
	for _, c := range []struct {
		r        *big.Rat
		down, up float64
	}{
		{new(big.Rat), 0, 0},
		{two(-1075), 0, least}, {two(-1074), least, least}, {two(-9000), 0, least},
		{exact(greatest), greatest, greatest}, {sum(exact(greatest), two(-1)), greatest, infinite}, {overflow(), greatest, infinite}, {two(1024), greatest, infinite}, {two(9000), greatest, infinite},
		{sum(two(-1022), opposite(two(-1080))), before(normal), normal}, {sum(two(-1022), two(-1080)), normal, after(normal)},
	} {
		same(t, "Down of "+c.r.String(), approx.Down(of(c.r)), c.down)
		same(t, "Up of "+c.r.String(), approx.Up(of(c.r)), c.up)
		if c.r.Sign() > 0 {
			same(t, "Down below 0", approx.Down(of(opposite(c.r))), -c.up)
			same(t, "Up below 0", approx.Up(of(opposite(c.r))), math.Copysign(c.down, -1))
		}
	}
}

func TestP4_4Steps(t *testing.T) {
	eachFinite(func(f float64) {
		next, e := approx.Next(f)
		want := after(f)
		if want == 0 {
			want = minusZero
		}
		wantFloat(t, "Next", next, e, want, api.OK)
		prev, e := approx.Prev(f)
		want = before(f)
		if want == 0 {
			want = 0
		}
		wantFloat(t, "Prev", prev, e, want, api.OK)
	})
}

func TestP4_4StepsAtTheirEdges(t *testing.T) {
	for _, c := range [][2]float64{
		{-infinite, -greatest}, {-greatest, -before(greatest)}, {-2 * least, -least}, {-least, minusZero}, {minusZero, least}, {0, least}, {least, 2 * least},
		{before(normal), normal}, {-normal, -before(normal)}, {1, 1 + 0x1p-52}, {before(2), 2}, {before(greatest), greatest}, {greatest, infinite},
	} {
		next, e := approx.Next(c[0])
		wantFloat(t, "Next", next, e, c[1], api.OK)
		prev, e := approx.Prev(-c[0])
		wantFloat(t, "Prev", prev, e, -c[1], api.OK)
	}
}

func TestP4_4StepsOfNoNumber(t *testing.T) {
	for _, f := range notNumbers() {
		next, e := approx.Next(f)
		wantFloat(t, "Next", next, e, 0, api.ErrNaN)
		prev, e := approx.Prev(f)
		wantFloat(t, "Prev", prev, e, 0, api.ErrNaN)
	}
	next, e := approx.Next(infinite)
	wantFloat(t, "Next", next, e, 0, api.ErrInf)
	prev, e := approx.Prev(-infinite)
	wantFloat(t, "Prev", prev, e, 0, api.ErrInf)
}

func TestP4_5Mid(t *testing.T) {
	for _, a := range edges() {
		for _, b := range edges() {
			want := nearest(product(sum(exact(a), exact(b)), two(-1)))
			f, e := approx.Mid(a, b)
			wantFloat(t, "Mid", f, e, want, api.OK)
		}
	}
}

func TestP4_5MidAtItsEdges(t *testing.T) {
	for _, c := range [][3]float64{
		{greatest, greatest, greatest}, {-greatest, -greatest, -greatest}, {greatest, before(greatest), before(greatest)}, {greatest, -greatest, 0}, {-greatest, greatest, 0},
		{least, least, least}, {least, 0, 0}, {-least, 0, minusZero}, {-least, minusZero, minusZero}, {least, 2 * least, 2 * least}, {-2 * least, -3 * least, -2 * least}, {least, -least, 0}, {-least, least, 0}, {minusZero, minusZero, 0}, {0, minusZero, 0},
		{-2 * least, least, minusZero}, {1, 2, 1.5}, {1, after(1), 1}, {greatest, least, before(0x1p1023)},
	} {
		f, e := approx.Mid(c[0], c[1])
		wantFloat(t, "Mid", f, e, c[2], api.OK)
	}
}

func TestP4_5MidOfNoNumber(t *testing.T) {
	finite := []float64{0, 1, -greatest}
	ends := []float64{infinite, -infinite}
	for _, nan := range notNumbers() {
		for _, b := range slices.Concat(finite, ends, notNumbers()) {
			for _, l := range [][2]float64{{nan, b}, {b, nan}} {
				f, e := approx.Mid(l[0], l[1])
				wantFloat(t, "Mid", f, e, 0, api.ErrNaN)
			}
		}
	}
	for _, inf := range ends {
		for _, b := range slices.Concat(finite, ends) {
			for _, l := range [][2]float64{{inf, b}, {b, inf}} {
				f, e := approx.Mid(l[0], l[1])
				wantFloat(t, "Mid", f, e, 0, api.ErrInf)
			}
		}
	}
}

func TestP4_11NearestOfExact(t *testing.T) {
	eachFinite(func(f float64) {
		r, _ := approx.Exact(f)
		if f == 0 {
			f = 0 // -0 is the number 0
		}
		same(t, "Nearest", approx.Nearest(r), f)
		same(t, "Down", approx.Down(r), f)
		same(t, "Up", approx.Up(r), f)
	})
}

func TestP4_11NoFloatIsNearer(t *testing.T) {
	eachNumber(func(r *big.Rat) {
		f := approx.Nearest(of(r))
		if math.IsInf(f, 0) {
			return
		}
		way := distance(exact(f), r)
		for _, other := range []float64{before(f), after(f), -f, 0} {
			if !math.IsInf(other, 0) && distance(exact(other), r).Cmp(way) < 0 {
				t.Fatalf("Nearest of %v: %v, but %v is nearer", r, f, other)
			}
		}
	})
}

func TestP4_11Order(t *testing.T) {
	var all []*big.Rat
	eachNumber(func(r *big.Rat) { all = append(all, r) })
	slices.SortFunc(all, func(a, b *big.Rat) int { return a.Cmp(b) })
	was := [3]float64{-infinite, -infinite, -infinite}
	for _, r := range all {
		now := [3]float64{approx.Down(of(r)), approx.Nearest(of(r)), approx.Up(of(r))}
		for i := range now {
			if now[i] < was[i] {
				t.Fatalf("%v: %v behind %v", r, now, was)
			}
		}
		if now[0] > now[1] || now[1] > now[2] || now[1] != now[0] && now[1] != now[2] {
			t.Fatalf("%v: %v", r, now)
		}
		next, _ := approx.Next(now[0])
		isFloat := !math.IsInf(now[0], 0) && exact(now[0]).Cmp(r) == 0
		if isFloat && now[2] != now[0] || !isFloat && now[2] != next {
			t.Fatalf("%v: %v", r, now)
		}
		was = now
	}
}
