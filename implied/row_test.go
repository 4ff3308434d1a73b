package implied_test

import (
	"fmt"
	"math"
	"math/big"
	"math/rand"
	"testing"

	"fulcrum/api"
	"fulcrum/implied"
)

// fence is a limit from a to b, with the whys 10 v and 10 v + 1.
func fence(v int, a, b string) api.Limit {
	return api.Limit{Lower: at(a, "0", 10*v), Upper: at(b, "0", 10*v+1)}
}

// nowhere is a limit of no bounds, of which all other fields are set.
func nowhere(why int) api.Limit {
	return api.Limit{Lower: none("-1", why), Upper: none("1", why+1)}
}

func wantRow(t *testing.T, r api.Row, limits []api.Limit) {
	t.Helper()
	what := fmt.Sprintf("Row of v%d = %v within %+v", r.Basic, polyOf(r.Form), limits)
	wantBounds(t, what, implied.Row(r, limits), rowsBounds(r, limits)...)
}

func zeroBounds(v int) []bound {
	return []bound{atLeast(v, "0", "0", nil), atMost(v, "0", "0", nil)}
}

// A row of one variable says that it is 0, whichever bounds there are.
func TestI1OneVariable(t *testing.T) {
	for _, v := range []int{0, 1, 2, 9, -1, math.MinInt, math.MaxInt} {
		for _, limits := range [][]api.Limit{nil, {}, {fence(0, "5", "3"), {}}, {nowhere(1), fence(1, "1", "1"), fence(2, "4", "6")}} {
			wantBounds(t, "the empty form", implied.Row(row(v), limits), zeroBounds(v)...)
			wantBounds(t, "3 v", implied.Row(row(v, "3", v), limits), zeroBounds(v)...)
			wantBounds(t, "-1/2 v", implied.Row(row(v, "-1/2", v), limits), zeroBounds(v)...)
			wantBounds(t, "parts that fall away", implied.Row(row(v, "1", 7, "2", v, "-1", 7, "0", 8), limits), zeroBounds(v)...)
			wantBounds(t, "v alone", implied.Row(row(v, "1", v), limits))
			wantBounds(t, "v in two parts", implied.Row(row(v, "3", v, "-2", v), limits))
			for _, zero := range zeros() {
				wantBounds(t, "noughts", implied.Row(api.Row{Basic: v, Form: api.Form{{Var: 6, Coef: zero}, {Var: v, Coef: zero}}}, limits), zeroBounds(v)...)
			}
		}
	}
}

// Basic falls away, and so it is none of the variables; or it stays with another coefficient.
func TestI1BasicInItsForm(t *testing.T) {
	limits := []api.Limit{fence(0, "1", "2"), fence(1, "3", "7"), fence(2, "-1", "4")}
	wantBounds(t, "v1 = v1 + 2 v0 - v2", implied.Row(row(1, "1", 1, "2", 0, "-1", 2), limits),
		atLeast(0, "-1/2", "0", by(20, "1/2")), atMost(0, "2", "0", by(21, "1/2")),
		atLeast(2, "2", "0", by(0, "2")), atMost(2, "4", "0", by(1, "2")))
	wantBounds(t, "v1 = 3 v1 - v0", implied.Row(row(1, "3", 1, "-1", 0), limits),
		atLeast(0, "6", "0", by(10, "2")), atMost(0, "14", "0", by(11, "2")),
		atLeast(1, "1/2", "0", by(0, "1/2")), atMost(1, "1", "0", by(1, "1/2")))
	wantBounds(t, "v1 = v1 + 5 v2", implied.Row(row(1, "1", 1, "5", 2), limits), zeroBounds(2)...)
	wantBounds(t, "v1 = v0 and v1 by halves", implied.Row(row(1, "1/2", 1, "1", 0, "1/2", 1), limits), zeroBounds(0)...)
}

// All choices of three variables' bounds and of the signs of their coefficients.
func TestI1WhichBoundsAreImplied(t *testing.T) {
	kinds := func(v int) []api.Limit {
		lower, upper := at(fmt.Sprint(v-5), "1/3", 7-v), at(fmt.Sprint(3*v), "-2", v*v-3)
		return []api.Limit{nowhere(40), {Lower: lower, Upper: none("9", 41)}, {Lower: none("-9", 42), Upper: upper}, {Lower: lower, Upper: upper}}
	}
	signs := []int64{2, -2}
	for _, c := range signs {
		for _, d := range signs {
			f := api.Form{{Var: 2, Coef: of(big.NewRat(c, 3))}, {Var: 0, Coef: of(big.NewRat(d, 1))}}
			for _, first := range kinds(0) {
				for _, second := range kinds(1) {
					for _, third := range kinds(2) {
						wantRow(t, api.Row{Basic: 1, Form: f}, []api.Limit{first, second, third})
					}
				}
			}
		}
	}
}

// One side has all that it needs, the other one does not.
func TestI1OneSideAlone(t *testing.T) {
	r := row(2, "3", 0, "-2", 1)
	all := []api.Limit{fence(0, "1", "2"), fence(1, "3", "4"), fence(2, "-6", "1")}
	wantBounds(t, "none lacks a bound", implied.Row(r, all),
		atLeast(0, "0", "0", by(10, "2/3", 20, "1/3")), atMost(0, "3", "0", by(11, "2/3", 21, "1/3")),
		atLeast(1, "1", "0", by(0, "3/2", 21, "1/2")), atMost(1, "6", "0", by(1, "3/2", 20, "1/2")),
		atLeast(2, "-5", "0", by(0, "3", 11, "2")), atMost(2, "0", "0", by(1, "3", 10, "2")))
	lacks := []api.Limit{{Upper: all[0].Upper}, all[1], all[2]}
	wantBounds(t, "one lacks a bound", implied.Row(r, lacks),
		atLeast(0, "0", "0", by(10, "2/3", 20, "1/3")), atMost(0, "3", "0", by(11, "2/3", 21, "1/3")),
		atMost(1, "6", "0", by(1, "3/2", 20, "1/2")), atMost(2, "0", "0", by(1, "3", 10, "2")))
	wantBounds(t, "one lacks both", implied.Row(r, []api.Limit{all[0], {}, all[2]}),
		atLeast(1, "1", "0", by(0, "3/2", 21, "1/2")), atMost(1, "6", "0", by(1, "3/2", 20, "1/2")))
	wantBounds(t, "two lack one, for the same side", implied.Row(r, []api.Limit{{Upper: all[0].Upper}, {Lower: all[1].Lower}, all[2]}),
		atLeast(0, "0", "0", by(10, "2/3", 20, "1/3")), atMost(1, "6", "0", by(1, "3/2", 20, "1/2")), atMost(2, "0", "0", by(1, "3", 10, "2")))
	wantBounds(t, "two lack one, for either side", implied.Row(r, []api.Limit{{Upper: all[0].Upper}, {Upper: all[1].Upper}, all[2]}),
		atMost(0, "3", "0", by(11, "2/3", 21, "1/3")), atMost(1, "6", "0", by(1, "3/2", 20, "1/2")))
	wantBounds(t, "two lack both", implied.Row(r, []api.Limit{all[0], {}, nowhere(5)}))
}

// The places are those of the variables: none is below 0 or behind the list's end, and what is behind the variables counts for nothing.
func TestI1VariablesWithoutAPlace(t *testing.T) {
	for _, v := range []int{-1, 2, 3, 65536, math.MaxInt, math.MinInt} {
		limits := []api.Limit{fence(0, "1", "2"), fence(1, "3", "4")}
		lower, upper := atLeast(v, "4", "0", by(0, "1", 10, "1")), atMost(v, "6", "0", by(1, "1", 11, "1"))
		for _, r := range []api.Row{row(v, "1", 1, "1", 0), row(0, "-1", 1, "1", v), row(1, "1", v, "-1", 0)} {
			wantBounds(t, "one without a place", implied.Row(r, limits), lower, upper)
			wantBounds(t, "too few places", implied.Row(r, limits[:1]))
			wantBounds(t, "no places", implied.Row(r, nil))
		}
	}
	limits := []api.Limit{fence(0, "1", "2"), fence(1, "3", "4"), fence(2, "5", "6"), fence(3, "7", "8")}
	wantBounds(t, "more places", implied.Row(row(1, "-2", 0), limits),
		atLeast(0, "-2", "0", by(11, "1/2")), atMost(0, "-3/2", "0", by(10, "1/2")),
		atLeast(1, "-4", "0", by(1, "2")), atMost(1, "-2", "0", by(0, "2")))
	wantBounds(t, "the least and the greatest", implied.Row(row(math.MaxInt, "1", math.MinInt), limits))
	wantBounds(t, "two without a place", implied.Row(row(-1, "1", 4), limits))
}

// By rising variables, the lower bound first; in By too, whichever way the row is written.
func TestI1Order(t *testing.T) {
	limits := []api.Limit{fence(0, "0", "0"), fence(1, "0", "1"), fence(2, "0", "2"), fence(3, "0", "3")}
	want := rowsBounds(row(2, "1", 0, "1", 1, "1", 3), limits)
	if len(want) != 8 || want[0].v != 0 || want[0].upper || want[7].v != 3 || !want[7].upper {
		t.Fatalf("the model tells %v", want)
	}
	for _, r := range []api.Row{
		row(2, "1", 0, "1", 1, "1", 3), row(2, "1", 3, "1", 1, "1", 0), row(2, "1", 1, "1", 3, "1", 0), row(0, "1", 2, "-1", 3, "-1", 1), row(3, "-1", 1, "1", 2, "-1", 0),
		row(1, "1/2", 2, "-1", 0, "7", 9, "1/2", 2, "-7", 9, "-3", 3, "2", 3, "0", 8),
	} {
		wantBounds(t, "Row", implied.Row(r, limits), want...)
	}
}

// Whys are told as they are, one as often as it counts.
func TestI1Whys(t *testing.T) {
	for _, whys := range [][2]int{{0, 0}, {-1, -1}, {7, 7}, {5, -5}, {math.MinInt, math.MaxInt}, {0, 1}} {
		limits := []api.Limit{{Lower: at("1", "0", whys[0])}, {Lower: at("2", "0", whys[1])}}
		wantBounds(t, "Row", implied.Row(row(2, "1", 0, "3", 1), limits), atLeast(2, "7", "0", by(whys[0], "1", whys[1], "3")))
	}
}

// What is no bound has no place and no why, whatever else it has: a nought's bound counts, and one that is not there does not.
func TestI1BoundsThatAreNone(t *testing.T) {
	zero := api.Bound{Has: true}
	wantBounds(t, "a bound at 0", implied.Row(row(1, "2", 0), []api.Limit{{Lower: zero}}), atLeast(1, "0", "0", by(0, "2")))
	wantBounds(t, "bounds that are none", implied.Row(row(1, "2", 0), []api.Limit{nowhere(3), nowhere(5)}))
	wantBounds(t, "one of both", implied.Row(row(1, "2", 0), []api.Limit{{Lower: none("4", 1), Upper: at("5", "0", 2)}, nowhere(5)}), atMost(1, "10", "0", by(2, "2")))
}

func TestI1Deltas(t *testing.T) {
	limits := []api.Limit{{Lower: at("1", "1", 1), Upper: at("2", "-1/2", 2)}, {Lower: at("-3", "4", 3), Upper: at("0", "-5", 4)}}
	wantBounds(t, "Row", implied.Row(row(2, "2", 0, "-1/3", 1), limits),
		atLeast(2, "2", "11/3", by(1, "2", 4, "1/3")), atMost(2, "5", "-7/3", by(2, "2", 3, "1/3")))
}

// A variable's own bounds may be any: its implied ones stay the same.
func TestI1OwnBoundsCountForNothing(t *testing.T) {
	r := row(1, "5", 2, "-2", 0)
	limits := []api.Limit{fence(0, "1", "2"), {}, fence(2, "3", "4")}
	want := rowsBounds(r, limits)
	if len(want) != 2 || want[0].v != 1 || want[1].v != 1 {
		t.Fatalf("the model tells %v", want)
	}
	for _, own := range []api.Limit{fence(7, "0", "1"), fence(7, "9", "-9"), {Lower: at("100", "3", 1)}, {Upper: at("1/7", "-3", 1)}, nowhere(4)} {
		limits[1] = own
		var got []api.Implied
		for _, i := range implied.Row(r, limits) {
			if i.Var == 1 {
				got = append(got, i)
			}
		}
		wantBounds(t, "Row", got, want...)
	}
}

// The same numbers, written otherwise: without a Den, not in lowest terms, with noughts.
func TestI1NumbersThatAreNotNormal(t *testing.T) {
	half := api.Rat{Num: api.Int{Abs: api.Nat{3, 0}}, Den: api.Nat{6, 0, 0}}
	for _, zero := range zeros() {
		r := api.Row{Basic: 1, Form: api.Form{{Var: 0, Coef: half}, {Var: 2, Coef: zero}, {Var: 0, Coef: half}, {Var: 0, Coef: zero}, {Var: 0, Coef: half}}}
		limits := []api.Limit{
			{Lower: api.Bound{Has: true, At: api.Delta{A: half, B: zero}, Why: 5}, Upper: api.Bound{Has: true, At: api.Delta{A: zero, B: half}, Why: 6}},
			{Lower: api.Bound{Has: true, At: api.Delta{A: zero, B: zero}, Why: 7}},
		}
		wantBounds(t, "Row", implied.Row(r, limits),
			atLeast(0, "0", "0", by(7, "2/3")), atLeast(1, "3/4", "0", by(5, "3/2")), atMost(1, "0", "3/4", by(6, "3/2")))
	}
}

// eachRow hands on rows and limits of all kinds.
func eachRow(seed int64, many int, do func(r *rand.Rand, row api.Row, limits []api.Limit)) {
	r := rand.New(rand.NewSource(seed))
	for range many {
		do(r, someRow(r), someLimits(r))
	}
}

func TestI1AnyRows(t *testing.T) {
	bounds := 0
	eachRow(1, 6000, func(r *rand.Rand, row api.Row, limits []api.Limit) {
		wantRow(t, row, limits)
		bounds += len(rowsBounds(row, limits))
	})
	if bounds < 5000 {
		t.Errorf("only %d bounds were implied", bounds)
	}
}

// Of a long row what is told is worked out for the variable that lacks a bound alone.
func TestI1LongRows(t *testing.T) {
	const vars = 2000
	r := api.Row{Basic: vars}
	limits := make([]api.Limit, vars)
	want := new(big.Rat)
	for v := range vars {
		r.Form = append(r.Form, api.Mono{Var: v, Coef: of(big.NewRat(int64(v%5+1), 1))})
		limits[v].Lower = at(fmt.Sprint(v%3), "0", v)
		want = sum(want, big.NewRat(int64((v%5+1)*(v%3)), 1))
	}
	l := implied.Row(r, limits)
	if len(l) != 1 || l[0].Var != vars || l[0].Upper || len(l[0].By) != vars || in(l[0].At).cmp(both{want, new(big.Rat)}) != 0 {
		t.Fatalf("%d bounds", len(l))
	}
	if !implied.Check(l[0], r, limits) {
		t.Error("it does not follow")
	}
	limits[7] = api.Limit{}
	wantBounds(t, "two lack a bound", implied.Row(r, limits))
}

// Values that keep the equation, and bounds around them: they keep what is implied, too.
func TestI6ImpliedBoundsHold(t *testing.T) {
	r := rand.New(rand.NewSource(6))
	reached := 0
	for range 3000 {
		row := someRow(r)
		values := valuesKeeping(r, equationOf(row))
		limits := limitsAround(r, values)
		for _, b := range told(implied.Row(row, limits)) {
			if isTighter(b.at, values[b.v], b.upper) {
				t.Fatalf("v%d = %v within %+v: %v, but its value is %v", row.Basic, polyOf(row.Form), limits, b, values[b.v])
			}
			if b.at.cmp(values[b.v]) == 0 {
				reached++
			}
		}
	}
	if reached < 100 {
		t.Errorf("only %d implied bounds were reached", reached)
	}
}

// valuesKeeping is any values but for the last variable's, which keeps the equation.
func valuesKeeping(r *rand.Rand, equation poly) map[int]both {
	out, rest := map[int]both{}, nought()
	for i, v := range equation.vars() {
		out[v] = in(someDelta(r))
		if i == len(equation)-1 {
			out[v] = nought().plus(quotient(big.NewRat(-1, 1), equation[v]), rest)
		}
		rest = rest.plus(equation[v], out[v])
	}
	return out
}

// limitsAround is bounds that the values keep, some of them just so.
func limitsAround(r *rand.Rand, values map[int]both) []api.Limit {
	out := make([]api.Limit, 7)
	for v := range out {
		value, ok := values[v]
		if !ok {
			value = in(someDelta(r))
		}
		gap := func(sign int64) api.Bound {
			away := both{big.NewRat(sign*r.Int63n(3)/2, 1), big.NewRat(sign*r.Int63n(3)/2, 1)}
			return api.Bound{Has: r.Intn(8) > 0, At: ofBoth(value.plus(one(), away)), Why: v}
		}
		out[v] = api.Limit{Lower: gap(-1), Upper: gap(1)}
	}
	return out
}

// Each implied bound is the sum of its multipliers' bounds: the lower ones count as they are for a lower bound, and the other way round for an upper one.
func TestI6SumsOfTheMultipliersBounds(t *testing.T) {
	eachRow(7, 3000, func(r *rand.Rand, row api.Row, limits []api.Limit) {
		for v := range limits {
			limits[v].Lower.Why, limits[v].Upper.Why = 2*v, 2*v+1
		}
		for _, b := range told(implied.Row(row, limits)) {
			total, sides := nought(), poly{}
			for _, m := range b.by {
				upper := m.why%2 == 1
				c := m.coef
				if upper != b.upper {
					c = opposite(c)
				}
				total = total.plus(c, in(boundOf(limits, m.why/2, upper).At))
				sides.put(m.why/2, c)
			}
			if total.cmp(b.at) != 0 {
				t.Fatalf("v%d = %v within %+v: %v, but the sum is %v", row.Basic, polyOf(row.Form), limits, b, total)
			}
			wantEquation(t, row, b.v, sides)
		}
	})
}

// wantEquation: that v is the sum of these is what the row says.
func wantEquation(t *testing.T, r api.Row, v int, others poly) {
	t.Helper()
	equation := equationOf(r)
	c := equation[v]
	others.put(v, big.NewRat(-1, 1))
	for _, u := range others.vars() {
		equation.put(u, product(c, others[u]))
	}
	if len(equation) != 0 {
		t.Fatalf("v%d is not the sum of %v by the row of %d", v, others, r.Basic)
	}
}
