package meaning_test

import (
	"math"
	"slices"
	"testing"

	"fulcrum/api"
	"fulcrum/terms"
)

func TestV3Holds(t *testing.T) {
	b := bank(t)
	v := binds("x=1", "y=2", "p=false", "q=true")
	for _, c := range []struct {
		terms []string
		want  bool
	}{
		{nil, true}, {[]string{"true"}, true}, {[]string{"false"}, false}, {[]string{"q"}, true}, {[]string{"p"}, false}, {[]string{"q", "p"}, false}, {[]string{"p", "q"}, false}, {[]string{"q", "q", "q"}, true}, {[]string{"p", "p"}, false},
		{[]string{"(< x y)", "q", "(not p)", "(= (+ x 1) y)"}, true}, {[]string{"(< x y)", "q", "(not p)", "(= x y)"}, false}, {[]string{"q", "(not q)"}, false}, {[]string{"(or p q)", "q", "true"}, true},
	} {
		wantHolds(t, b, readAll(t, b, c.terms...), v, c.want)
	}
}

func TestV3NoTerms(t *testing.T) {
	for _, b := range append(unmade(), terms.New(), bank(t)) {
		wantHolds(t, b, nil, nil, true)
		wantHolds(t, b, []int{}, binds("x=1"), true)
	}
}

func TestV3NoSuchTerm(t *testing.T) {
	b := bank(t)
	v := binds("q=true")
	for _, n := range []int{-1, b.Len(), math.MaxInt, math.MinInt} {
		wantNotHeld(t, b, []int{n}, v, api.ErrTerm)
		wantNotHeld(t, b, []int{4, n}, v, api.ErrTerm)
		wantNotHeld(t, b, []int{n, 4}, v, api.ErrTerm)
	}
	for _, none := range append(unmade(), terms.New()) {
		wantNotHeld(t, none, []int{0}, v, api.ErrTerm)
		wantNotHeld(t, none, []int{-1}, v, api.ErrTerm)
	}
}

// Errors go by their kinds, not by the order of the terms: one that is none, then one that is not of Bool, then one without a value, then one that is false.
func TestV3TheOrderOfErrors(t *testing.T) {
	b := bank(t)
	v := binds("x=1", "y=2", "q=true", "r=false")
	no, amount, open, lie, good := b.Len()+999, read(t, b, "(+ x y)"), read(t, b, "(or q p)"), read(t, b, "r"), read(t, b, "q")
	for _, c := range []struct {
		terms []int
		want  api.Errno
	}{
		{[]int{no, amount, open, lie, good}, api.ErrTerm}, {[]int{no, amount}, api.ErrTerm}, {[]int{no, open}, api.ErrTerm}, {[]int{no, lie}, api.ErrTerm}, {[]int{amount, open, lie, good}, api.ErrSort}, {[]int{amount, open}, api.ErrSort}, {[]int{amount, lie}, api.ErrSort}, {[]int{amount}, api.ErrSort},
		{[]int{open, lie, good}, api.ErrValue}, {[]int{open, lie}, api.ErrValue}, {[]int{open, good}, api.ErrValue}, {[]int{open}, api.ErrValue}, {[]int{read(t, b, "z"), lie}, api.ErrSort}, {[]int{read(t, b, "7")}, api.ErrSort}, {[]int{read(t, b, "(ite p x y)"), open}, api.ErrSort},
	} {
		for range len(c.terms) {
			wantNotHeld(t, b, c.terms, v, c.want)
			c.terms = append(c.terms[1:len(c.terms):len(c.terms)], c.terms[0])
		}
		slices.Reverse(c.terms)
		wantNotHeld(t, b, c.terms, v, c.want)
	}
	wantHolds(t, b, []int{lie, good}, v, false)
}

// Values of another sort, and a name that stands for constants of two sorts, in one term or in two.
func TestV3NoValue(t *testing.T) {
	b := bank(t)
	wantNotHeld(t, b, readAll(t, b, "p"), binds("p=1", "p=true"), api.ErrValue)
	wantHolds(t, b, readAll(t, b, "p"), binds("p=true", "p=1"), true)
	wantNotHeld(t, b, readAll(t, b, "(< x 1)", "p"), binds("x=true", "p=false"), api.ErrValue)
	for _, sort := range oddSorts {
		wantNotHeld(t, b, readAll(t, b, "(or true p)"), []api.Binding{{Name: "p", Value: api.Value{Sort: sort, Bool: true}}}, api.ErrValue)
	}
	two, amount, truth, both := twoSorts(t)
	less := add(t, two, api.TermLess, amount, read(t, two, "1"))
	for _, v := range [][]api.Binding{nil, binds("x=true"), binds("x=0"), binds("x=0", "x=true"), binds("x=true", "x=0")} {
		wantNotHeld(t, two, []int{both}, v, api.ErrValue)
		wantNotHeld(t, two, []int{less, truth}, v, api.ErrValue)
	}
	wantHolds(t, two, []int{less}, binds("x=0", "x=true"), true)
	wantHolds(t, two, []int{truth}, binds("x=true", "x=0"), true)
	wantNotHeld(t, two, []int{amount}, binds("x=0"), api.ErrSort)
}

// Terms that stand in one another are gone over together.
func TestV3AllTermsOfABank(t *testing.T) {
	b := bank(t)
	l := []int{read(t, b, "q")}
	for range 1 << 17 {
		last := l[len(l)-1]
		l = append(l, add(t, b, api.TermAnd, last, last))
	}
	wantHolds(t, b, l, binds("q=true"), true)
	wantHolds(t, b, l, binds("q=false"), false)
	wantNotHeld(t, b, l, nil, api.ErrValue)
	wantComplete(t, b, l, nil, binds("q=false"))
}
