package linear_test

import (
	"math"
	"math/big"
	"math/rand"
	"slices"
	"testing"

	"fulcrum/api"
	"fulcrum/linear"
)

func TestP6_1Norm(t *testing.T) {
	eachForm(func(f api.Form) {
		wantForm(t, "Norm", linear.Norm(f), in(f))
		wantForm(t, "Norm of it", linear.Norm(linear.Norm(f)), in(f))
	})
}

func TestP6_1AddAndSub(t *testing.T) {
	eachPair(func(f, g api.Form) {
		wantForm(t, "Add", linear.Add(f, g), in(f).plus(bigNum("1"), in(g)))
		wantForm(t, "Sub", linear.Sub(f, g), in(f).plus(bigNum("-1"), in(g)))
	})
}

func TestP6_1Scale(t *testing.T) {
	r := rand.New(rand.NewSource(3))
	eachForm(func(f api.Form) {
		for _, c := range []api.Rat{zeros()[r.Intn(len(zeros()))], edges()[r.Intn(len(edges()))], someRat(r)} {
			wantForm(t, "Scale", linear.Scale(c, f), poly{}.plus(ratIn(c), in(f)))
		}
	})
	for _, c := range zeros() {
		wantForm(t, "Scale by 0", linear.Scale(c, form("1", 1, "-2/3", -2)), nil)
	}
}

func TestP6_1Coef(t *testing.T) {
	eachForm(func(f api.Form) {
		for _, v := range append(edgeVars(), -4, 4, 7, 1000) {
			wantRat(t, "Coef", linear.Coef(f, v), in(f).at(v))
		}
	})
	for _, c := range edges() {
		wantRat(t, "Coef of one part", linear.Coef(api.Form{{Var: 3, Coef: c}}, 3), ratIn(c))
		wantRat(t, "Coef of a variable that does not stand there", linear.Coef(api.Form{{Var: 3, Coef: c}}, -3), nothing())
	}
}

func TestP6_1Vars(t *testing.T) {
	eachForm(func(f api.Form) {
		if l := linear.Vars(f); !slices.Equal(l, in(f).vars()) {
			t.Fatalf("Vars of %v: %v", in(f), l)
		}
	})
}

// One variable in very many parts, and very many variables in falling order, each in two parts.
func TestP6_1LongForms(t *testing.T) {
	var one, many api.Form
	want := poly{}
	for i := range 3000 {
		one = append(one, api.Mono{Var: -8, Coef: of(big.NewRat(int64(i%5-2), int64(1+i%7)))})
		for _, c := range []int64{int64(i), 1} {
			many = append(many, api.Mono{Var: 5000 - i, Coef: of(big.NewRat(c, 3))})
			want.put(5000-i, big.NewRat(c, 3))
		}
	}
	wantForm(t, "Norm", linear.Norm(one), in(one))
	wantForm(t, "Norm", linear.Norm(many), want)
	wantForm(t, "Add", linear.Add(many, one), want.plus(bigNum("1"), in(one)))
}

// order is P6.2's own words.
func order(f, g poly) int {
	l := append(f.vars(), g.vars()...)
	slices.Sort(l)
	for _, v := range l {
		if f.at(v).Cmp(g.at(v)) != 0 {
			return less(f.at(v), g.at(v)).Sign()
		}
	}
	return 0
}

func TestP6_2Cmp(t *testing.T) {
	eachPair(func(f, g api.Form) {
		if c := linear.Cmp(f, g); c != order(in(f), in(g)) {
			t.Fatalf("Cmp of %v and %v: %d", in(f), in(g), c)
		}
	})
}

// The first, a middle or the last coefficient is unlike, or stands in one of both alone.
func TestP6_2CmpAtItsEdges(t *testing.T) {
	whole := form("1", -1, "2", 3, "3", 5)
	for _, c := range []struct {
		g    api.Form
		want int
	}{
		{form("3", 5, "2", 3, "1", -1), 0}, {form("1", 3, "4/2", 5, "1", -1, "1", 3, "1", 5), 0},
		{form("2", -1, "-9", 3, "-9", 5), -1}, {form("1/2", -1, "9", 3, "9", 5), 1},
		{form("1", -1, "5/2", 3, "-9", 5), -1}, {form("1", -1, "-2", 3, "9", 5), 1},
		{form("1", -1, "2", 3, "4", 5), -1}, {form("1", -1, "2", 3, "-4", 5), 1},
		{form("2", 3, "3", 5), 1}, {form("1", -1, "3", 5), 1}, {form("1", -1, "2", 3), 1},
		{form("1", -1, "-1", -1, "2", 3, "3", 5), 1}, {nil, 1}, {form("0", -1, "0", 7), 1},
		{form("1", math.MinInt, "1", -1, "2", 3, "3", 5), -1}, {form("-1", math.MinInt, "9", -1), 1},
		{form("1", -1, "2", 3, "3", 5, "1", math.MaxInt), -1}, {form("1", -1, "2", 3, "3", 5, "-1", math.MaxInt), 1},
		{form("1", -1, "2", 3, "1", 4, "3", 5), -1}, {form("1", -1, "2", 3, "-1", 4, "3", 5), 1},
	} {
		if got := linear.Cmp(whole, c.g); got != c.want {
			t.Errorf("Cmp with %v: %d, not %d", in(c.g), got, c.want)
		}
		if got := linear.Cmp(c.g, whole); got != -c.want {
			t.Errorf("Cmp of %v: %d, not %d", in(c.g), got, -c.want)
		}
	}
}

// valueOf is P6.3's own words, place being the i-th value of so many.
func valueOf(p poly, length int, place func(i int) *big.Rat) *big.Rat {
	out := nothing()
	for v, c := range p {
		if v >= 0 && v < length {
			out = sum(out, product(c, place(v)))
		}
	}
	return out
}

func value(p poly, vals []api.Rat) *big.Rat {
	return valueOf(p, len(vals), func(i int) *big.Rat { return ratIn(vals[i]) })
}

func TestP6_3Value(t *testing.T) {
	r := rand.New(rand.NewSource(4))
	eachForm(func(f api.Form) {
		for _, vals := range [][]api.Rat{nil, {}, someVals(r), someVals(r)} {
			wantRat(t, "Value", linear.Value(f, vals), value(in(f), vals))
		}
	})
}

func wantDeltas(t *testing.T, f api.Form, vals []api.Delta) {
	t.Helper()
	got := linear.Deltas(f, vals)
	wantRat(t, "Deltas, A", got.A, valueOf(in(f), len(vals), func(i int) *big.Rat { return ratIn(vals[i].A) }))
	wantRat(t, "Deltas, B", got.B, valueOf(in(f), len(vals), func(i int) *big.Rat { return ratIn(vals[i].B) }))
}

func TestP6_3Deltas(t *testing.T) {
	r := rand.New(rand.NewSource(5))
	eachForm(func(f api.Form) {
		for _, vals := range [][]api.Delta{nil, {}, someDeltas(r), someDeltas(r)} {
			wantDeltas(t, f, vals)
		}
	})
}

// Lists that are shorter than the variables, just as long and longer; variables below 0; one part alone, whose number is not in lowest terms.
func TestP6_3ValuesAtTheirEdges(t *testing.T) {
	f := form("1/2", 0, "3", 2, "5", -1, "7", math.MinInt, "11", math.MaxInt, "1", 2)
	vals := []api.Rat{num("4"), num("100"), num("1/4"), num("9")}
	for length, want := range []string{"0", "2", "2", "3", "3"} {
		wantRat(t, "Value", linear.Value(f, vals[:length]), bigNum(want))
		var l []api.Delta
		for _, r := range vals[:length] {
			l = append(l, api.Delta{A: num("-1"), B: r})
		}
		wantDeltas(t, f, l)
		wantRat(t, "Deltas, B", linear.Deltas(f, l).B, bigNum(want))
	}
	for _, c := range edges() {
		wantRat(t, "Value of 1 x0", linear.Value(form("1", 0), []api.Rat{c}), ratIn(c))
		wantRat(t, "Value where x0 is 1", linear.Value(api.Form{{Var: 0, Coef: c}}, []api.Rat{num("1")}), ratIn(c))
		wantDeltas(t, form("1", 0), []api.Delta{{A: c, B: opposite(c)}})
		wantDeltas(t, api.Form{{Var: 0, Coef: c}}, []api.Delta{{A: num("1"), B: num("-2")}})
	}
}

// The denominators are unlike, so the sum is long: it is added up quickly all the same.
func TestP6_3LongSums(t *testing.T) {
	var f api.Form
	var vals []api.Rat
	want := nothing()
	for i := range int64(1500) {
		f = append(f, api.Mono{Var: int(i), Coef: num("1")})
		vals = append(vals, of(big.NewRat(1, 1<<31+i)))
		want = sum(want, big.NewRat(1, 1<<31+i))
	}
	wantRat(t, "Value", linear.Value(f, vals), want)
}
