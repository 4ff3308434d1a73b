package optimum_test

import (
	"fmt"
	"math"
	"math/big"
	"math/rand"
	"slices"
	"testing"

	"fulcrum/api"
	"fulcrum/optimum"
)

// wantVerdict asks for that answer, of the program and of the chapter's words.
func (w *world) wantVerdict(t *testing.T, f api.Affine, value api.Delta, dual []api.Multiplier, want bool) {
	t.Helper()
	what := fmt.Sprintf("%v and %v at most %v by %v", polyOf(f.Form), ratIn(f.Const), in(value), dual)
	wantProof(t, what+": the model", w.proves(f, value, dual), want)
	wantProof(t, what, optimum.Proves(w.s, f, value, dual), want)
	wantProof(t, what+", written otherwise", optimum.Proves(w.s, otherAffine(f), otherDelta(value), otherDual(dual)), want)
}

// Of v0 + v1 <= 4, v0 >= 1 and v1 <= 9.
func proving(t *testing.T) (*world, api.Affine, []api.Multiplier) {
	t.Helper()
	return begun(t, "2<4", "0>1", "1<9&-1"), affine("0", "1", 1), by(5, "1", 0, "1")
}

func TestO3Values(t *testing.T) {
	w, f, dual := proving(t)
	for text, want := range map[string]bool{
		"3": true, "4": true, "1000000000000000000000": true, "3&1": true, "3&1/1000": true, "3001/1000&-99": true,
		"3&-1": false, "3&-1/1000": false, "2": false, "2999/1000&99": false, "-4": false, "0": false,
	} {
		w.wantVerdict(t, f, number(text), dual, want)
	}
	for text, want := range map[string]bool{"9&-1": true, "9": true, "9&-1/2": true, "9&-2": false, "8&5": false} {
		w.wantVerdict(t, f, number(text), by(3, "1"), want)
	}
}

// The constant counts, and is no part of the form.
func TestO3Constants(t *testing.T) {
	w, _, dual := proving(t)
	for add, least := range map[string]string{"0": "3", "1": "4", "-7/2": "-1/2", "100000000000": "100000000003"} {
		f := affine(add, "1", 1)
		w.wantVerdict(t, f, plain(least), dual, true)
		w.wantVerdict(t, f, pair(least, "-1/9"), dual, false)
		w.wantVerdict(t, affine(add), plain(add), nil, true)
		w.wantVerdict(t, affine(add), pair(add, "1"), nil, true)
		w.wantVerdict(t, affine(add), pair(add, "-1"), nil, false)
	}
}

// The empty dual proves something of constants alone, and of what is one behind the rows.
func TestO3TheEmptyDual(t *testing.T) {
	w, f, _ := proving(t)
	for _, none := range [][]api.Multiplier{nil, {}} {
		w.wantVerdict(t, f, plain("1000"), none, false)
		w.wantVerdict(t, api.Affine{}, plain("0"), none, true)
		w.wantVerdict(t, affine("1", "2", 0, "-2", 0), plain("1"), none, true)
		w.wantVerdict(t, affine("1", "1", 2, "-1", 0, "-1", 1), plain("1"), none, true)
		w.wantVerdict(t, affine("1", "1", 2, "-1", 0, "-1", 1), pair("1", "-1"), none, false)
		w.wantVerdict(t, affine("1", "1", 2, "-1", 0), plain("1000"), none, false)
	}
	wantProof(t, "a simplex without variables", optimum.Proves(opened(t, 0).s, affine("2"), plain("2"), nil), true)
	wantProof(t, "a simplex without variables", optimum.Proves(opened(t, 0).s, affine("2"), plain("1"), nil), false)
}

func TestO3NoSuchVariable(t *testing.T) {
	w, f, dual := proving(t)
	for _, v := range far(3) {
		bad := affine("0", "1", 1, "1", v)
		wantProof(t, "a variable that there is not", optimum.Proves(w.s, bad, plain("1000"), dual), false)
		wantProof(t, "a variable that there is not", optimum.Proves(w.s, affine("0", "1", v), plain("1000"), nil), false)
		f.Form = form("1", 1, "3", v, "-3", v)
		wantProof(t, "one that falls away", optimum.Proves(w.s, f, plain("3"), dual), true)
		empty := opened(t, 0).s
		wantProof(t, "a simplex without variables", optimum.Proves(empty, affine("0", "1", v), plain("9"), nil), false)
		wantProof(t, "a simplex without variables", optimum.Proves(empty, affine("0", "1", v, "-1", v), plain("9"), nil), true)
	}
}

// Each why is that of a bound that there is, also where it is taken 0 times.
func TestO3NoSuchBound(t *testing.T) {
	w, f, dual := proving(t)
	for _, why := range []int{1, 2, 4, 6, 7, -1, -2, -3, -6, 8, 131071, 131072, math.MaxInt32, math.MaxInt, math.MaxInt - 1, math.MinInt, math.MinInt + 1} {
		for _, coef := range []string{"0", "1"} {
			for i := range 3 {
				w.wantVerdict(t, f, plain("1000"), slices.Insert(slices.Clone(dual), i, by(why, coef)...), false)
			}
		}
		w.wantVerdict(t, affine("0"), plain("1000"), by(why, "0"), false)
		wantProof(t, "no bound at all", optimum.Proves(begun(t).s, affine("0"), plain("1000"), by(why, "0")), false)
		wantProof(t, "no variable at all", optimum.Proves(opened(t, 0).s, affine("0"), plain("1000"), by(why, "0")), false)
	}
	for _, why := range []int{0, 3, 5} {
		w.wantVerdict(t, affine("0"), plain("0"), by(why, "0"), true)
	}
}

// A bound that is left behind a level is none any more.
func TestO3BoundsOfLevels(t *testing.T) {
	w, f, dual := proving(t)
	w.push()
	w.told(t, "2<3&-1", "0<7")
	w.wantVerdict(t, f, pair("2", "-1"), dual, true)
	w.wantVerdict(t, affine("0", "1", 0), plain("7"), by(1, "1"), true)
	w.back(t, 0)
	w.wantVerdict(t, f, pair("2", "-1"), dual, false)
	w.wantVerdict(t, f, plain("3"), dual, true)
	w.wantVerdict(t, affine("0", "1", 0), plain("7"), by(1, "1"), false)
}

func TestO3Coefs(t *testing.T) {
	w, f, _ := proving(t)
	for _, c := range []struct {
		dual []api.Multiplier
		want bool
	}{
		{by(5, "1", 0, "1"), true}, {by(0, "1", 5, "1"), true}, {by(5, "1", 0, "1", 3, "0"), true}, {by(3, "0", 5, "1", 0, "1", 5, "0"), true},
		{by(5, "1/2", 0, "1/3", 5, "1/2", 0, "2/3"), true}, {by(3, "1/2", 5, "1/2", 0, "1/2"), true}, {by(3, "1"), true}, {by(0, "1/4", 3, "3/4", 5, "1/4"), true},
		{by(5, "1", 0, "2"), false}, {by(5, "1", 0, "1/2"), false}, {by(5, "2", 0, "1"), false}, {by(5, "1"), false}, {by(0, "1"), false}, {by(5, "0", 0, "0"), false},
		{by(5, "2", 0, "1", 5, "-1"), false}, {by(5, "1", 0, "2", 0, "-1"), false}, {by(5, "1", 0, "1", 3, "1", 3, "-1"), false}, {by(5, "1", 0, "1", 0, "-1/1000", 0, "1/1000"), false},
		{by(3, "1", 3, "1"), false}, {by(5, "-1", 0, "-1"), false},
	} {
		w.wantVerdict(t, f, plain("1000"), c.dual, c.want)
	}
	for _, zero := range zeros() {
		dual := append(by(5, "1", 0, "1"), api.Multiplier{Why: 3, Coef: zero})
		w.wantVerdict(t, f, plain("3"), dual, true)
	}
}

// Lower bounds are taken away, upper ones are added, each so many times.
func TestO3Sums(t *testing.T) {
	w := begun(t, "0>2&1", "0<7&-1", "2>-3")
	for _, c := range []struct {
		f     api.Affine
		value string
		dual  []api.Multiplier
	}{
		{affine("0", "-1", 0), "-2&-1", by(0, "1")}, {affine("0", "1", 0), "7&-1", by(1, "1")}, {affine("0"), "5&-2", by(0, "1", 1, "1")}, {affine("0"), "15&-6", by(1, "3", 0, "3")},
		{affine("0", "2", 0), "19&-4", by(1, "3", 0, "1")}, {affine("1/2", "-1", 2), "7/2", by(4, "1")}, {affine("0", "-1", 0, "-1", 1), "3", by(4, "1")},
		{affine("0", "-1", 1), "10&-1", by(4, "1", 1, "1")}, {affine("0", "-3", 1), "30&-3", by(1, "1", 4, "1", 1, "2", 4, "2")},
	} {
		w.wantVerdict(t, c.f, number(c.value), c.dual, true)
		less := in(number(c.value)).plus(one(), both{new(big.Rat), big.NewRat(-1, 100)})
		w.wantVerdict(t, c.f, less.delta(), c.dual, false)
	}
}

// The form may be the same behind the rows alone, whichever these are now.
func TestO3BehindTheRows(t *testing.T) {
	w := begun(t, "2<4&-1", "0>1")
	four := w.define(t, form("2", 2, "-1", 0))
	w.told(t, fmt.Sprint(four, ">-5"))
	for range 3 {
		for _, f := range []api.Affine{affine("0", "1", 0, "1", 1), affine("0", "1", 2), affine("0", "2", 2, "-1", 0, "-1", 1), affine("0", "1/2", four, "1/2", 0)} {
			w.wantVerdict(t, f, pair("4", "-1"), by(5, "1"), true)
			w.wantVerdict(t, f, plain("3"), by(5, "1"), false)
		}
		for _, f := range []api.Affine{affine("0", "1", 0), affine("0", "1", 2, "1", 0), affine("0", "1", four), {}, affine("0", "-1", 2)} {
			w.wantVerdict(t, f, plain("1000"), by(5, "1"), false)
		}
		w.push()
		w.told(t, "1>3/2", fmt.Sprint(four, ">5"))
		_, e := w.s.Check() // other rows each time
		wantErr(t, "Check", e, api.OK)
		w.back(t, 0)
		w.told(t, fmt.Sprint(four, "<", 100-w.s.Pivots()))
	}
	if w.s.Pivots() == 0 {
		t.Fatal("no other rows")
	}
}

// someDual is multipliers of bounds, most of which there are; now and then something is wrong with it.
func (w *world) someDual(r *rand.Rand) []api.Multiplier {
	var whys []int
	for v, l := range w.limits {
		if l.lower != nil {
			whys = append(whys, 2*v)
		}
		if l.upper != nil {
			whys = append(whys, 2*v+1)
		}
	}
	var out []api.Multiplier
	for range min(r.Intn(5), 5*len(whys)) {
		out = append(out, api.Multiplier{Why: whys[r.Intn(len(whys))], Coef: of(new(big.Rat).Abs(ratIn(someCoef(r))))})
	}
	if r.Intn(8) == 0 {
		out = append(out, api.Multiplier{Why: r.Intn(2*len(w.roots)+4) - 2, Coef: someCoef(r)})
	}
	return out
}

// summed is a form that a dual says something of, by variables that Var gave, or by others; and what it is at most.
func (w *world) summed(t *testing.T, r *rand.Rand, dual []api.Multiplier) (api.Affine, both) {
	t.Helper()
	f, most := affine(fmt.Sprint(r.Intn(5)-2)), nought()
	most[0] = ratIn(f.Const)
	for _, m := range dual {
		v := m.Why >> 1
		if v < 0 || v >= len(w.roots) {
			continue
		}
		c, b := ratIn(m.Coef), w.limits[v].upper
		if m.Why&1 == 0 {
			c, b = opposite(c), w.limits[v].lower
		}
		if b != nil {
			most = most.plus(c, *b)
		}
		if r.Intn(2) == 0 {
			f.Form = append(f.Form, api.Mono{Var: v, Coef: of(c)})
			continue
		}
		for x, k := range w.roots[v] {
			f.Form = append(f.Form, api.Mono{Var: x, Coef: of(product(c, k))})
		}
	}
	return f, most
}

// By the chapter's words; and what is proved is so: no value is above it (O5).
func TestO3O5AnyDual(t *testing.T) {
	r := rand.New(rand.NewSource(113))
	proved, refused, tight := 0, 0, 0
	for range 700 {
		w := drawn(t, r, 1+r.Intn(3), r.Intn(4), 2+r.Intn(10))
		for range 4 {
			dual := w.someDual(r)
			f, most := w.summed(t, r, dual)
			switch r.Intn(6) {
			case 0:
				most = in(someDelta(r))
			case 1:
				most[1] = sum(most[1], big.NewRat(r.Int63n(3)-1, 9))
			case 2:
				f.Form = append(f.Form, someForm(r, len(w.roots))...)
			}
			want := w.proves(f, most.delta(), dual)
			wantProof(t, "any dual", optimum.Proves(w.s, f, most.delta(), dual), want)
			wantProof(t, "any dual, written otherwise", optimum.Proves(w.s, otherAffine(f), otherDelta(most.delta()), otherDual(dual)), want)
			if !want {
				refused++
				continue
			}
			s := w.span(f)
			if proved++; s.empty {
				continue
			}
			if s.greatest == nil || s.greatest.cmp(most) > 0 {
				t.Fatalf("%v and %v: proved to be at most %v by %v, but its values are %v", polyOf(f.Form), ratIn(f.Const), most, dual, s)
			}
			if s.greatest.cmp(most) == 0 {
				tight++
			}
		}
	}
	if proved < 400 || refused < 400 || tight < 100 {
		t.Fatal("proved, refused, tight:", proved, refused, tight)
	}
}

// The greatest value is the least number for which there is a dual: the told one proves nothing less, and no other one does; where there is no greatest value none proves anything.
func TestO5NoDualProvesLess(t *testing.T) {
	r := rand.New(rand.NewSource(114))
	ended, endless := 0, 0
	for range 150 {
		w := planted(t, r, 1+r.Intn(3), r.Intn(3))
		dual := w.someDual(r)
		f, _ := w.summed(t, r, dual)
		if r.Intn(2) == 0 {
			f = someAffine(r, len(w.roots))
		}
		o, e := optimum.Greatest(w.s, f)
		wantErr(t, "Greatest", e, api.OK)
		less := plain("1000000")
		if o.Kind == api.OptUnbounded {
			endless++
		} else {
			ended++
			less = in(o.Value).plus(one(), both{new(big.Rat), big.NewRat(-1, 1000)}).delta()
		}
		for _, l := range append(w.fewBounds(), dual, o.Dual) {
			wantProof(t, "less than the greatest value", optimum.Proves(w.s, f, less, l), false)
		}
	}
	if ended < 40 || endless < 10 {
		t.Fatal("with an end, without:", ended, endless)
	}
}

// fewBounds is duals of each one and each two bounds, so many times.
func (w *world) fewBounds() [][]api.Multiplier {
	var out [][]api.Multiplier
	for a := range 2 * len(w.roots) {
		for _, c := range []string{"1", "2", "1/2"} {
			out = append(out, by(a, c))
			for b := range a {
				out = append(out, by(a, c, b, "1"), by(b, c, a, "3"))
			}
		}
	}
	return out
}
