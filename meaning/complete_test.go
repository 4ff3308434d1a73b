package meaning_test

import (
	"fmt"
	"math"
	"testing"

	"fulcrum/api"
	"fulcrum/terms"
)

func TestV4Complete(t *testing.T) {
	b := bank(t)
	for _, c := range []struct {
		terms    []string
		has, out []api.Binding
	}{
		{[]string{"(< x y)"}, nil, binds("x=0", "y=0")}, {[]string{"(< y x)", "p", "q", "(= z 1)"}, nil, binds("p=false", "q=false", "x=0", "y=0", "z=0")}, {[]string{"p"}, binds("p=true"), binds("p=true")},
		{[]string{"q", "(< y x)"}, binds("y=1/2"), binds("y=1/2", "q=false", "x=0")}, {[]string{"x", "(+ x y)", "x"}, binds("y=-1"), binds("y=-1", "x=0")}, {[]string{"(ite true x y)"}, binds("x=1"), binds("x=1", "y=0")},
		{[]string{"(or true p)", "(* 0 x)"}, nil, binds("p=false", "x=0")}, {[]string{"(and p q r)"}, binds("r=true", "z=5", "p=true"), binds("r=true", "z=5", "p=true", "q=false")},
	} {
		wantComplete(t, b, readAll(t, b, c.terms...), c.has, c.out)
	}
}

// Of no terms, and of terms without constants, the bindings alone are told; those of a bank that nobody made too.
func TestV4NoConstants(t *testing.T) {
	v := binds("z=1", "a=true", "z=2", "a=true", "=0")
	for _, b := range append(unmade(), terms.New(), bank(t)) {
		wantComplete(t, b, nil, v, v)
		wantComplete(t, b, []int{}, nil, nil)
	}
	b := bank(t)
	wantComplete(t, b, readAll(t, b, "true", "7", "(and true false)", "(< 1 2)"), v, v)
	wantComplete(t, b, readAll(t, b, "true"), nil, nil)
}

func TestV4NoSuchTerm(t *testing.T) {
	b := bank(t)
	for _, n := range []int{-1, b.Len(), math.MaxInt, math.MinInt} {
		for _, l := range [][]int{{n}, {0, n}, {n, 0}, {0, 3, n, 1}} {
			wantIncomplete(t, b, l, binds("x=1"), api.ErrTerm)
			wantIncomplete(t, b, l, binds("x=true"), api.ErrTerm) // ahead of ErrValue
		}
	}
	for _, none := range append(unmade(), terms.New()) {
		wantIncomplete(t, none, []int{0}, nil, api.ErrTerm)
		wantIncomplete(t, none, []int{-1}, binds("x=1"), api.ErrTerm)
	}
}

// A value of another sort is an error only of a constant that stands there, and only where it is the first one of its name.
func TestV4NoValue(t *testing.T) {
	b := bank(t)
	l := readAll(t, b, "(< x 1)", "p")
	for _, v := range [][]api.Binding{binds("x=true"), binds("p=0"), binds("x=true", "x=1"), binds("x=1", "p=1", "p=true"), binds("y=1", "q=true", "p=7")} {
		wantIncomplete(t, b, l, v, api.ErrValue)
	}
	for _, sort := range oddSorts {
		for _, name := range []string{"x", "p"} {
			wantIncomplete(t, b, l, []api.Binding{{Name: name, Value: api.Value{Sort: sort}}}, api.ErrValue)
		}
	}
	v := binds("x=1", "x=true", "p=true", "p=1", "y=true", "q=0")
	wantComplete(t, b, l, v, v)
	v = binds("y=true", "q=0")
	wantComplete(t, b, l, v, append(v, binds("p=false", "x=0")...))
}

// Two constants of one name and of two sorts, in one term or in two, with a value or without.
func TestV4TwoSorts(t *testing.T) {
	b, amount, truth, both := twoSorts(t)
	for _, l := range [][]int{{both}, {amount, truth}, {truth, amount}, {truth, truth, amount}, {both, truth}} {
		for _, v := range [][]api.Binding{nil, binds("x=0"), binds("x=true"), binds("x=0", "x=true"), binds("y=1")} {
			wantIncomplete(t, b, l, v, api.ErrValue)
		}
	}
	wantComplete(t, b, []int{amount, amount}, nil, binds("x=0"))
	wantComplete(t, b, []int{truth}, nil, binds("x=false"))
	wantComplete(t, b, []int{truth}, binds("x=true", "x=0"), binds("x=true", "x=0"))
}

// Values are told as answers have them, in their order, also those of names that stand nowhere and those that do not count.
func TestV4ValuesAsAnswersHaveThem(t *testing.T) {
	b := bank(t)
	odd := api.Rat{Num: api.Int{Neg: true, Abs: api.Nat{6, 0}}, Den: api.Nat{4, 0}}
	none := api.Rat{Num: api.Int{Abs: api.Nat{7}}}
	v := []api.Binding{
		{Name: "x", Value: api.Value{Sort: api.SortReal, Bool: true, Real: odd}}, {Name: "p", Value: api.Value{Sort: api.SortBool, Bool: true, Real: odd}}, {Name: "z", Value: api.Value{Sort: api.SortReal, Real: none}}, {Name: "nobody", Value: api.Value{Sort: api.SortBool, Real: none}},
		{Name: "x", Value: api.Value{Sort: api.SortReal, Real: api.Rat{Num: api.Int{Neg: true, Abs: api.Nat{0}}, Den: api.Nat{9}}}}, {Name: "", Value: api.Value{Sort: api.SortReal, Bool: true}},
	}
	want := binds("x=-3/2", "p=true", "z=0", "nobody=false", "x=0", "=0")
	for i, sort := range oddSorts {
		name := fmt.Sprint("w", i)
		v = append(v, api.Binding{Name: name, Value: api.Value{Sort: sort, Bool: true, Real: odd}})
		want = append(want, api.Binding{Name: name, Value: api.Value{Sort: sort}})
	}
	v = append(v, api.Binding{})
	want = append(want, api.Binding{})
	wantComplete(t, b, nil, v, want)
	wantComplete(t, b, readAll(t, b, "(< x 1)", "(or p q)", "(= z y)"), v, append(want, binds("q=false", "y=0")...))
}

// What is put behind the bindings rises by the names' bytes, whatever the sorts and the order of the terms.
func TestV4TheOrderOfNames(t *testing.T) {
	b := terms.New()
	var l []int
	for i, name := range []string{"x10", "é", "b", "x2", "B", "a b", "x"} {
		l = append(l, declare(t, b, name, 1+i%2))
	}
	l = append(l, stand(t, b, 6), stand(t, b, 1))
	wantComplete(t, b, l, binds("b=true", "0=1"), binds("b=true", "0=1", "\x001=0", "\x006=false", "B=false", "a b=0", "x=false", "x10=false", "x2=0", "é=0"))
}
