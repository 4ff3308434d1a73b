package simplify_test

import (
	"fmt"
	"math"
	"slices"
	"testing"

	"fulcrum/api"
	"fulcrum/meaning"
	"fulcrum/ratio"
	"fulcrum/simplify"
	"fulcrum/terms"
)

// lift is what Lift tells of a term, as far as the chapter fixes it without bindings.
func lift(t *testing.T, b *terms.Bank, n int) api.Lifted {
	t.Helper()
	ites, pure := refOf(b).ites(n), b.Len()
	l, e := simplify.Lift(b, n)
	wantErr(t, fmt.Sprint("Lift of ", n), e, api.OK)
	if len(ites) == 0 {
		wantText(t, "Lift of a pure term", tellLifted(l), tellLifted(api.Lifted{Term: n}))
		wantInt(t, "the bank's terms then", b.Len(), pure)
		return l
	}
	var stands []int
	for _, ite := range ites {
		s, e := b.Stand(ite)
		wantErr(t, "Stand", e, api.OK)
		stands = append(stands, s)
	}
	wantText(t, fmt.Sprint("Stands of ", n), fmt.Sprint(l.Stands), fmt.Sprint(stands))
	if len(l.Fixed) > 2*len(stands) {
		t.Fatalf("%d terms for %d ites", len(l.Fixed), len(stands))
	}
	had := refOf(b).constants(n)
	for _, m := range append([]int{l.Term}, l.Fixed...) {
		wantPure(t, b, m, true)
		wantInt(t, "its sort", get(t, b, m).Sort, api.SortBool)
		for c := range refOf(b).constants(m) {
			if _, ok := had[c]; !ok && !slices.Contains(stands, c) {
				t.Fatalf("%d has the constant %d", m, c)
			}
		}
	}
	was := b.Len()
	again, e := simplify.Lift(b, n)
	wantErr(t, "Lift again", e, api.OK)
	wantText(t, "Lift again", tellLifted(again), tellLifted(l))
	wantInt(t, "the bank's terms then", b.Len(), was)
	return l
}

// wantLifted: where the constants that stand for ites have these ites' values, Term says what the term says, and Fixed is true; where one has another value, Fixed is not.
func wantLifted(t *testing.T, b *terms.Bank, n int, l api.Lifted, v []api.Binding) {
	t.Helper()
	v = slices.Clone(v)
	place := map[string]int{}
	for i, ite := range refOf(b).ites(n) {
		value, e := meaning.Eval(b, ite, v)
		wantErr(t, "Eval of an ite", e, api.OK)
		name := get(t, b, l.Stands[i]).Name
		at := slices.IndexFunc(v, func(x api.Binding) bool { return x.Name == name })
		if at < 0 {
			at = len(v)
			v = append(v, api.Binding{Name: name})
		}
		v[at].Value = value
		place[name] = at
	}
	wantText(t, fmt.Sprint("Term of ", n), eval(t, b, l.Term, v), eval(t, b, n, v))
	fixed, e := meaning.Holds(b, l.Fixed, v)
	wantErr(t, "Holds of Fixed", e, api.OK)
	wantTruth(t, fmt.Sprint("Fixed of ", n), fixed, true)
	for _, at := range place {
		was := v[at].Value
		for _, by := range []string{"1", "-1/2"} {
			v[at].Value.Real = ratio.Add(was.Real, rat(by))
			fixed, _ := meaning.Holds(b, l.Fixed, v)
			wantTruth(t, fmt.Sprint("Fixed of ", n, " with another value of ", v[at].Name), fixed, false)
		}
		v[at].Value = was
	}
	for _, at := range place {
		v[at].Value.Real = ratio.Add(v[at].Value.Real, rat("3")) // and so with others
		fixed, _ := meaning.Holds(b, l.Fixed, v)
		wantTruth(t, fmt.Sprint("Fixed of ", n, " with other values"), fixed, false)
	}
}

func TestM2Lift(t *testing.T) {
	b := bank(t)
	for text, ites := range map[string]int{
		"p": 0, "true": 0, "(ite p q r)": 0, "(and p (< x (+ y 1)))": 0,
		"(< (ite p x y) 2)": 1, "(= (+ x (* 2 (ite p x y))) 0)": 1, "(not (or p (< (ite q 1 2) x)))": 1, "(ite (< (ite p x y) 1) q r)": 1, "(ite p (= (ite q x y) 0) r)": 1,
		"(< (ite p x (ite q y 1)) 2)": 2, "(< (ite (< (ite p x y) 1) x z) 2)": 2, "(distinct (ite p x y) (ite q x y) (ite r x y))": 3, "(< (+ (ite p x y) (ite p x y) (* 3 (ite p x y))) (ite p x y))": 1,
		"(and (< (ite p x y) 1) (xor q (< (ite p x y) 2)) (=> r (<= 1 (+ x (ite p x y)))))": 1, "(< (ite (= (ite (< (ite p 1 2) x) y z) 3) (ite q x y) (ite (not q) x y)) 0)": 5, "(< (ite p x x) 1)": 1, "(< (ite true x y) 1)": 1, "(< (* 0 (ite p x y)) 1)": 1,
	} {
		n := read(t, b, text)
		wantInt(t, "the ites of "+text, len(refOf(b).ites(n)), ites)
		l := lift(t, b, n)
		wantInt(t, "Stands of "+text, len(l.Stands), ites)
		for i := range 8 {
			for _, amounts := range [][]string{{"x=0", "y=1", "z=2"}, {"x=1", "y=1", "z=-1/2"}, {"x=2", "y=3/2", "z=3"}} {
				v := append(binds(amounts...), binds(fmt.Sprint("p=", i&1 > 0), fmt.Sprint("q=", i&2 > 0), fmt.Sprint("r=", i&4 > 0))...)
				wantLifted(t, b, n, l, v)
			}
		}
	}
}

// A constant that stands for an ite may stand in the term ahead of it, and terms that were lifted may be lifted with others.
func TestM2LiftOfConstantsThatStand(t *testing.T) {
	b := bank(t)
	inner, outer := read(t, b, "(ite p x y)"), read(t, b, "(ite q (ite p x y) 1)")
	late := read(t, b, "(ite r x 5)")
	first := lift(t, b, add(t, b, api.TermLess, late, 0)) // its constant has the least number
	s := first.Stands[0]
	own, _ := b.Stand(outer)
	n := add(t, b, api.TermAnd, add(t, b, api.TermLess, own, outer), add(t, b, api.TermAtMost, s, inner), add(t, b, api.TermEqual, late, own))
	l := lift(t, b, n)
	wantInt(t, "Stands", len(l.Stands), 3)
	for i := range 8 {
		v := append(binds("x=0", "y=1", "\x00"+fmt.Sprint(late)+"=2", "\x00"+fmt.Sprint(outer)+"=1"), binds(fmt.Sprint("p=", i&1 > 0), fmt.Sprint("q=", i&2 > 0), fmt.Sprint("r=", i&4 > 0))...)
		wantLifted(t, b, n, l, v)
	}
	again := add(t, b, api.TermOr, l.Term, first.Term, 3)
	wantText(t, "what was lifted is pure", tellLifted(lift(t, b, again)), tellLifted(api.Lifted{Term: again}))
}

// By rising numbers of the ites, also if their constants were made in another order.
func TestM2StandsByTheItesNumbers(t *testing.T) {
	b := bank(t)
	first, second, third := read(t, b, "(ite p x y)"), read(t, b, "(ite q x y)"), read(t, b, "(ite r x y)")
	c, _ := b.Stand(third)
	a, _ := b.Stand(first)
	l := lift(t, b, add(t, b, api.TermDistinct, third, first, second))
	d, _ := b.Stand(second)
	wantText(t, "Stands", fmt.Sprint(l.Stands), fmt.Sprint([]int{a, d, c}))
}

func TestM2LiftErrors(t *testing.T) {
	b := bank(t)
	for _, n := range readAll(t, b, "x", "7", "(+ x y)", "(ite p x y)", "(* 2 (ite p x y))") {
		wantNotLifted(t, b, n, api.ErrSort)
	}
	for _, n := range []int{-1, b.Len(), math.MaxInt, math.MinInt} {
		wantNotLifted(t, b, n, api.ErrTerm)
	}
	for _, none := range append(unmade(), terms.New()) {
		wantNotLifted(t, none, 0, api.ErrTerm)
	}
}

func wantNotLifted(t *testing.T, b *terms.Bank, n int, want api.Errno) {
	t.Helper()
	l, e := simplify.Lift(b, n)
	wantErr(t, fmt.Sprint("Lift of ", n), e, want)
	wantText(t, "beside the error", tellLifted(l), tellLifted(api.Lifted{}))
}

func TestM2LiftDrawn(t *testing.T) {
	seen := 0
	for seed := range int64(250) {
		w := draw(t, seed, false)
		v := make([][]api.Binding, 6)
		for i := range v {
			v[i] = w.someBinds()
		}
		for n := range w.bank.Len() {
			if w.sort(n) == api.SortReal {
				wantNotLifted(t, w.bank, n, api.ErrSort)
				continue
			}
			l := lift(t, w.bank, n)
			for _, one := range v {
				wantLifted(t, w.bank, n, l, one)
			}
			seen += len(l.Stands)
		}
	}
	if seen < 800 {
		t.Fatal("so few ites", seen)
	}
}

// One way down for each of so many ites, and more than can be gone through: each term has its kid several times over.
func TestM2LiftGoesOverEachTermOnce(t *testing.T) {
	const deep = 5000
	b := bank(t)
	sum := chain(t, b, read(t, b, "(ite p x y)"), deep, func(last int) api.Term { return api.Term{Kind: api.TermAdd, Kids: []int{last, last}} })
	l := lift(t, b, add(t, b, api.TermLess, sum, 0))
	wantInt(t, "Stands of a sum", len(l.Stands), 1)
	truth := chain(t, b, read(t, b, "(< (ite p x y) 1)"), deep, func(last int) api.Term { return api.Term{Kind: api.TermXor, Kids: []int{last, last}} })
	l, e := simplify.Lift(b, truth)
	wantErr(t, "Lift of xors", e, api.OK)
	wantPure(t, b, l.Term, true)
	ites := chain(t, b, 0, deep, func(last int) api.Term { return api.Term{Kind: api.TermIte, Kids: []int{3, last, last}} })
	l, e = simplify.Lift(b, add(t, b, api.TermLess, ites, 0))
	wantErr(t, "Lift of ites", e, api.OK)
	wantInt(t, "Stands of ites", len(l.Stands), deep)
	if len(l.Fixed) > 2*deep {
		t.Fatal("so many terms are fixed", len(l.Fixed))
	}
}
