package optimum_test

import (
	"math/big"
	"math/rand"
	"strings"
	"testing"

	"fulcrum/api"
	"fulcrum/optimum"
	"fulcrum/simplex"
)

func TestO1O2NoSuchVariable(t *testing.T) {
	clashing := []string{"0>1", "1>1", "2<1"}
	for _, w := range []*world{opened(t, 0), opened(t, 3), begun(t), begun(t, "0<1"), begun(t, clashing...)} { // it goes ahead of a clash
		for _, v := range far(len(w.roots)) {
			w.wantRefused(t, affine("0", "1", v), api.ErrVar)
			w.wantRefused(t, affine("3", "2", v, "-1", v), api.ErrVar)
			if len(w.roots) > 0 {
				w.wantRefused(t, affine("1", "1", 0, "-1/7", v), api.ErrVar)
			}
		}
	}
}

// Where the coefficients of a variable that there is not fall away, it is none of the form's.
func TestO1O2VariablesThatFallAway(t *testing.T) {
	w := begun(t, "0<3", "0>1")
	for _, v := range far(3) {
		f := affine("1", "2", v, "1", 0, "-3", v, "1", v)
		w.wantGreatest(t, f, api.OptAttained, plain("4"))
		w.wantLeast(t, f, api.OptAttained, plain("2"))
		for _, zero := range zeros() {
			f := api.Affine{Form: api.Form{{Var: v, Coef: zero}}, Const: zero}
			w.wantGreatest(t, f, api.OptAttained, plain("0"))
			w.wantLeast(t, f, api.OptAttained, plain("0"))
		}
	}
}

func TestO1O2Clash(t *testing.T) {
	for _, bounds := range [][]string{
		{"0>1", "1>1", "2<1"}, {"0<1", "1<1", "2>3"}, {"0=1", "1=2", "2=4"}, {"0=1", "1=2", "2=2"},
		{"0>1", "1>1", "2<2&-1"}, {"0>1&1", "1>1", "2<2"}, {"0>1&1", "1>1&-2", "2<2&-2"}, {"0<1", "1<1&1/2", "2>2&3/4"}, // by the delta's part alone
	} {
		w := begun(t, bounds...)
		for range 2 { // ahead of Check, and behind it
			for _, f := range []api.Affine{affine("7"), {}, affine("0", "1", 0), affine("0", "1", 2), affine("1", "1", 2, "-1", 1, "-1", 0)} {
				w.wantRefused(t, f, api.ErrClash)
			}
			w.s.Check()
		}
	}
	for _, bounds := range [][]string{{"0>1&1", "1>1&-2", "2<2&-1"}, {"0<1", "1<1&1/2", "2>2&1/2"}, {"0=1", "1=2", "2=3"}} { // as near as may be
		w := begun(t, bounds...)
		o, e := optimum.Greatest(w.s, affine("0", "1", 2))
		wantErr(t, "Greatest", e, api.OK)
		w.wantOptimum(t, "Greatest", o, affine("0", "1", 2), 1)
	}
}

// A row without variables is 0, and bounds that ask for something else clash with it at once.
func TestO1O2ClashOfARowAlone(t *testing.T) {
	for _, text := range []string{">1", ">0&1/9", "<-1", "<0&-1/9", "=2"} {
		w := opened(t, 1)
		wantInt(t, "Define", w.define(t, nil), 1)
		w.told(t, "1"+text)
		w.wantRefused(t, affine("7"), api.ErrClash)
		w.wantRefused(t, affine("0", "1", 0), api.ErrClash)
		w.wantRefused(t, affine("0", "1", 1), api.ErrClash)
	}
	w := opened(t, 1)
	w.define(t, nil)
	w.told(t, "1>-1&5", "1<0&1")
	w.wantGreatest(t, affine("3", "5", 1), api.OptAttained, plain("3"))
	w.wantLeast(t, affine("3", "5", 1), api.OptAttained, plain("3"))
	w.wantNoGreatest(t, affine("3", "5", 1, "-1", 0))
}

func TestO1O2WithoutVariables(t *testing.T) {
	w := opened(t, 0)
	for _, zero := range zeros() {
		for _, f := range []api.Affine{{Const: zero}, {Form: api.Form{}, Const: zero}, {Form: api.Form{{Var: 0, Coef: zero}}, Const: zero}} {
			wantInt(t, "multipliers", len(w.wantGreatest(t, f, api.OptAttained, plain("0")).Dual), 0)
			wantInt(t, "multipliers", len(w.wantLeast(t, f, api.OptAttained, plain("0")).Dual), 0)
		}
	}
	w.wantGreatest(t, affine("-5/3"), api.OptAttained, plain("-5/3"))
	w.wantLeast(t, affine("-5/3"), api.OptAttained, plain("-5/3"))
}

func TestO1O2WithoutBounds(t *testing.T) {
	for _, w := range []*world{opened(t, 3), begun(t)} {
		for v := range 3 {
			w.wantNoGreatest(t, affine("1", "2", v))
			w.wantNoLeast(t, affine("1", "2", v))
			w.wantNoGreatest(t, affine("1", "-1/2", v, "5", 0))
		}
		w.wantGreatest(t, affine("1/2"), api.OptAttained, plain("1/2"))
		w.wantLeast(t, affine("1/2", "3", 1, "-3", 1), api.OptAttained, plain("1/2"))
	}
	w := begun(t) // what falls away behind the rows alone
	w.wantGreatest(t, affine("4", "2", 2, "-2", 0, "-2", 1), api.OptAttained, plain("4"))
	w.wantLeast(t, affine("4", "2", 2, "-2", 0, "-2", 1), api.OptAttained, plain("4"))
}

// ask is a form, its least and its greatest value: "" is no end.
type ask struct {
	f               api.Affine
	least, greatest string
}

func (w *world) wantAnswers(t *testing.T, a ask) {
	t.Helper()
	if a.greatest == "" {
		w.wantNoGreatest(t, a.f)
	} else {
		w.wantGreatest(t, a.f, kindBy(a.greatest), number(a.greatest))
	}
	if a.least == "" {
		w.wantNoLeast(t, a.f)
	} else {
		w.wantLeast(t, a.f, kindBy(a.least), number(a.least))
	}
}

func kindBy(text string) int {
	if strings.Contains(text, "&") {
		return api.OptSupremum
	}
	return api.OptAttained
}

func TestO1O2Kinds(t *testing.T) {
	x, y, both := affine("0", "1", 0), affine("0", "1", 1), affine("0", "1", 2)
	for _, c := range []struct {
		bounds []string
		asks   []ask
	}{
		{[]string{"0<3"}, []ask{{x, "", "3"}, {affine("-1", "2", 0), "", "5"}, {affine("1/2", "-2", 0), "-11/2", ""}, {y, "", ""}, {both, "", ""}}},
		{[]string{"0>-2"}, []ask{{x, "-2", ""}, {affine("1", "-3", 0), "", "7"}, {y, "", ""}, {both, "", ""}}},
		{[]string{"0>-2", "0<3"}, []ask{{x, "-2", "3"}, {affine("0", "-1", 0), "-3", "2"}, {affine("0", "1", 0, "1", 1), "", ""}, {affine("0", "2", 0, "1", 1, "-1", 2), "-2", "3"}}},
		// the infinitely small part of either sign, on either side
		{[]string{"0>-2&1", "0<3&-1"}, []ask{{x, "-2&1", "3&-1"}, {affine("1", "-2", 0), "-5&2", "5&-2"}}},
		{[]string{"0>-2&-1", "0<3&1/2"}, []ask{{x, "-2&-1", "3&1/2"}, {affine("0", "1/3", 0), "-2/3&-1/3", "1&1/6"}}},
		{[]string{"0>0&1", "0<0&2"}, []ask{{x, "0&1", "0&2"}, {affine("0", "-1", 0), "0&-2", "0&-1"}}},
		{[]string{"0<1&-1", "1<1&1"}, []ask{{both, "", "2"}, {affine("0", "2", 0, "1", 1), "", "3&-1"}, {affine("0", "1", 0, "3", 1), "", "4&2"}}},
		{[]string{"0<1&-1", "1<2&-1/2", "2<3&-1"}, []ask{{both, "", "3&-3/2"}}},
		{[]string{"0<1&-1", "1<2&-1/2", "2<3&-2"}, []ask{{both, "", "3&-2"}, {x, "", "1&-1"}}},
		// bounds on which the form does not hang
		{[]string{"0<3", "0>1"}, []ask{{y, "", ""}, {both, "", ""}, {affine("0", "1", 2, "-1", 1), "1", "3"}}},
		{[]string{"2<3", "2>1"}, []ask{{x, "", ""}, {y, "", ""}, {affine("0", "1", 0, "-1", 1), "", ""}, {affine("5", "-2", 1, "-2", 0), "-1", "3"}}},
		// forms over basic variables, over others, over both
		{[]string{"0<3", "1<5"}, []ask{{both, "", "8"}, {affine("0", "1", 0, "1", 1), "", "8"}, {affine("0", "1", 2, "1", 0), "", "11"}, {affine("0", "1", 2, "-1", 0), "", "5"}, {affine("0", "1", 2, "-2", 0), "", ""}}},
		{[]string{"0>1", "1>1", "2<6"}, []ask{{x, "1", "5"}, {y, "1", "5"}, {both, "2", "6"}, {affine("0", "1", 0, "-1", 1), "-4", "4"}, {affine("1", "3", 2, "-1", 1), "6", "18"}}},
		{[]string{"0>1", "2<6"}, []ask{{y, "", "5"}, {x, "1", ""}, {affine("0", "-1", 0, "1", 1), "", "4"}}},
		// fixed variables
		{[]string{"0=2", "2=5"}, []ask{{x, "2", "2"}, {y, "3", "3"}, {both, "5", "5"}, {affine("1", "2", 0, "-1", 1), "2", "2"}}},
		{[]string{"0=2&1"}, []ask{{x, "2&1", "2&1"}, {y, "", ""}, {affine("0", "1", 2, "-1", 1), "2&1", "2&1"}, {affine("0", "1", 1, "-1", 2), "-2&-1", "-2&-1"}}},
		{[]string{"2=4", "0>0", "1>0"}, []ask{{x, "0", "4"}, {both, "4", "4"}, {affine("0", "2", 0, "1", 1), "4", "8"}}},
		// several bounds that meet in one corner
		{[]string{"0<1", "1<1", "2<2"}, []ask{{both, "", "2"}, {affine("0", "2", 0, "1", 1), "", "3"}, {x, "", "1"}}},
		{[]string{"0>0", "1>0", "2<0"}, []ask{{x, "0", "0"}, {y, "0", "0"}, {both, "0", "0"}, {affine("0", "1", 0, "-1", 1), "0", "0"}}},
	} {
		w := begun(t, c.bounds...)
		for range 2 { // ahead of Check, and behind it
			for _, a := range c.asks {
				w.wantAnswers(t, a)
				w.wantAnswers(t, ask{otherAffine(a.f), a.least, a.greatest})
				w.wantBoth(t, a.f)
			}
			w.s.Check()
		}
	}
}

// However numbers are written, they are the same.
func TestO1O2NumbersThatAreNotNormal(t *testing.T) {
	for _, zero := range zeros() {
		w := opened(t, 2)
		w.define(t, api.Form{{Var: 0, Coef: otherwise(num("2"))}, {Var: 1, Coef: zero}, {Var: 1, Coef: otherwise(num("-1/3"))}})
		w.press(2, api.Delta{A: otherwise(num("5/2")), B: zero})
		w.lift(1, api.Delta{A: zero, B: otherwise(num("-1"))})
		w.press(1, api.Delta{A: zero, B: zero})
		f := api.Affine{Form: api.Form{{Var: 0, Coef: otherwise(num("4"))}, {Var: 1, Coef: zero}}, Const: zero}
		w.wantGreatest(t, f, api.OptAttained, plain("5"))
		f.Const, f.Form[1] = otherwise(num("-1/2")), api.Mono{Var: 1, Coef: otherwise(num("-1"))}
		w.wantGreatest(t, f, api.OptSupremum, pair("9/2", "1/3"))
		w.wantNoLeast(t, f)
	}
}

// All against Fourier's and Motzkin's way, each kind of answer often.
func TestO1O2AgainstTheSpan(t *testing.T) {
	r := rand.New(rand.NewSource(111))
	seen := map[string]int{}
	for range 600 {
		w := drawn(t, r, r.Intn(4), r.Intn(4), r.Intn(14))
		for range 3 {
			s := w.wantBoth(t, someAffine(r, len(w.roots)))
			seen[kindOf(s)]++
		}
	}
	for _, kind := range []string{"clash", "no end", "no greatest", "no least", "attained", "come near"} {
		if seen[kind] < 40 {
			t.Fatal("what was answered:", seen)
		}
	}
}

func kindOf(s span) string {
	switch {
	case s.empty:
		return "clash"
	case s.greatest == nil && s.least == nil:
		return "no end"
	case s.greatest == nil:
		return "no greatest"
	case s.least == nil:
		return "no least"
	case s.greatest[1].Sign() != 0 || s.least[1].Sign() != 0:
		return "come near"
	}
	return "attained"
}

// Larger ones, of which the told values and the dual are all that is needed to be sure; and layer 9 finds no values that are above.
func TestO1O2LargerOnes(t *testing.T) {
	r := rand.New(rand.NewSource(112))
	seen := map[int]int{}
	for range 250 {
		w := planted(t, r, 3+r.Intn(6), 2+r.Intn(8))
		for range r.Intn(8) {
			w.someCall(t, r)
		}
		f := someAffine(r, len(w.roots))
		for range 4 {
			f.Form = append(f.Form, someForm(r, len(w.roots))...)
		}
		up, e := optimum.Greatest(w.s, f)
		seen[w.wantLast(t, up, e, f, 1)]++
		down, again := optimum.Least(w.s, f)
		wantErr(t, "Least", again, e)
		seen[w.wantLast(t, down, e, f, -1)]++
	}
	for kind := range 4 {
		if seen[kind] < 20 {
			t.Fatal("what was answered:", seen)
		}
	}
}

// wantLast: f times sign gets as far as o says, and no further.
func (w *world) wantLast(t *testing.T, o api.Optimum, e api.Errno, f api.Affine, sign int64) int {
	t.Helper()
	way := f
	if sign < 0 {
		way = turned(f)
	}
	switch o.Kind {
	case api.OptNone:
		wantErr(t, "no optimum", e, api.ErrClash)
		wantBare(t, "beside a clash", o, api.OptNone)
		_, e = w.s.Clone().Check()
		wantErr(t, "Check", e, api.ErrClash)
	case api.OptUnbounded:
		wantErr(t, "no end", e, api.OK)
		wantBare(t, "no end", o, api.OptUnbounded)
		wantErr(t, "far above", w.reaches(t, way.Form, plain("1000000000000000000000000000000")), api.OK)
	default:
		w.wantOptimum(t, "an optimum", o, f, sign)
		value := in(o.Value).plus(one(), both{opposite(ratIn(f.Const)), new(big.Rat)}).scaled(big.NewRat(sign, 1))
		wantErr(t, "there", w.reaches(t, way.Form, value.delta()), api.OK)
		value[1] = sum(value[1], big.NewRat(1, 1000000))
		wantErr(t, "further", w.reaches(t, way.Form, value.delta()), api.ErrClash)
	}
	return o.Kind
}

// reaches is what Check says where the form is at least d.
func (w *world) reaches(t *testing.T, f api.Form, d api.Delta) api.Errno {
	t.Helper()
	s := w.s.Clone()
	v, e := s.Define(f)
	wantErr(t, "Define", e, api.OK)
	if _, e = s.Lift(v, d, 1); e == api.OK {
		_, e = s.Check()
	}
	return e
}

// As many variables as there may be: there is no room for one more, and none is needed.
func TestO1O2AsManyVariablesAsThereMayBe(t *testing.T) {
	s := simplex.New()
	for range api.MaxVars - 1 {
		s.Var()
	}
	last := api.MaxVars - 1
	v, e := s.Define(form("1", 0, "1", last-1))
	wantErr(t, "Define", e, api.OK)
	wantInt(t, "Define", v, last)
	s.Press(last, plain("4"), 1)
	s.Lift(0, plain("1"), 1)
	f := affine("1/2", "2", last-1)
	o, e := optimum.Greatest(s, f)
	wantErr(t, "Greatest", e, api.OK)
	wantInt(t, "Greatest: Kind", o.Kind, api.OptAttained)
	wantDelta(t, "Greatest", o.Value, in(plain("13/2")))
	wantInt(t, "how many values", len(o.Values), api.MaxVars)
	wantProof(t, "the told dual", optimum.Proves(s, f, o.Value, o.Dual), true)
	wantProof(t, "another one", optimum.Proves(s, f, o.Value, by(2*last+1, "2", 0, "2")), true)
	o, e = optimum.Least(s, f)
	wantErr(t, "Least", e, api.OK)
	wantBare(t, "Least", o, api.OptUnbounded)
	_, e = optimum.Greatest(s, affine("0", "1", api.MaxVars))
	wantErr(t, "Greatest", e, api.ErrVar)
}

// Many variables that each go to a bound of their own, with one row over all of them.
func TestO1O2ManyBounds(t *testing.T) {
	const many = 20000
	s := simplex.New()
	var f api.Form
	for v := range many {
		s.Var()
		s.Lift(v, plain("-1"), 1)
		s.Press(v, plain("2"), 1)
		f = append(f, api.Mono{Var: v, Coef: num("1")})
	}
	v, e := s.Define(f)
	wantErr(t, "Define", e, api.OK)
	for _, x := range []api.Form{f, form("1", v)} {
		o, e := optimum.Greatest(s, api.Affine{Form: x})
		wantErr(t, "Greatest", e, api.OK)
		wantDelta(t, "Greatest", o.Value, in(plain("40000")))
		wantInt(t, "how many multipliers", len(o.Dual), many)
		wantProof(t, "the told dual", optimum.Proves(s, api.Affine{Form: x}, o.Value, o.Dual), true)
	}
}
