package terms_test

import (
	"fmt"
	"testing"

	"fulcrum/api"
	"fulcrum/terms"
)

// base is the constants of bank as terms, and what some of each kind make of them.
func base() []api.Term {
	return append([]api.Term{name("x", api.SortReal), name("y", api.SortReal), name("p", api.SortBool), name("q", api.SortBool)}, some...)
}

func wantLoaded(t *testing.T, l []api.Term, names []api.Param) *terms.Bank {
	t.Helper()
	b, e := terms.Load(l, names)
	wantErr(t, fmt.Sprintf("Load of %+v %v", l, names), e, api.OK)
	wantNumber(t, "Len", b.Len(), len(l))
	wantNumber(t, "Names", b.Names(), len(names))
	wantText(t, "Declared", fmt.Sprint(b.Declared()), fmt.Sprint(append([]api.Param{}, names...)))
	return b
}

func wantNotLoaded(t *testing.T, l []api.Term, names []api.Param, err api.Errno) {
	t.Helper()
	b, e := terms.Load(l, names)
	wantErr(t, fmt.Sprintf("Load of %+v %v", l, names), e, err)
	if b != nil {
		t.Fatal("a bank beside an error")
	}
}

func TestB6Load(t *testing.T) {
	b := wantLoaded(t, nil, nil)
	wantNumber(t, "the first term", read(t, b, "1"), 0)
	b = wantLoaded(t, base(), params("xR", "yR", "pB", "qB"))
	for n, want := range base() {
		wantTerm(t, b, n, want)
		wantAdd(t, b, want, n)
	}
	wantNumber(t, "Read", read(t, b, "(< x y)"), 18)
	wantNumber(t, "Read", read(t, b, "(< y x)"), len(base()))
	b = wantLoaded(t, base(), params("qB", "xR"))
	wantRefused(t, b, "(not p)", api.ErrUnknown, "p")
	wantNumber(t, "Read", read(t, b, "x"), 0)
	wantNotDeclared(t, b, "q", api.SortBool, api.ErrDeclared)
	n, e := b.Declare("p", api.SortBool)
	wantErr(t, "Declare", e, api.OK)
	wantNumber(t, "Declare", n, 2)
	wantErr(t, "Forget", b.Forget(1), api.OK)
	wantText(t, "Declared", fmt.Sprint(b.Declared()), fmt.Sprint(params("qB")))
}

// What does not count is zero, numbers are normal, and the Sort is told by the table, but of a name.
func TestB6WhatCounts(t *testing.T) {
	l := base()
	for i := 4; i < len(l); i++ {
		if l[i].Kind != api.TermNumber && l[i].Kind != api.TermScale {
			l[i].Number = rat("5")
		}
	}
	l[6].Number = api.Rat{Num: api.Int{Neg: true, Abs: api.Nat{9, 0}}, Den: api.Nat{6}}
	l[0].Number = rat("5")
	for _, odd := range []api.Param{{Name: "odd", Sort: 77}, {Name: "\x000", Sort: api.SortReal}, {Name: "\x002", Sort: api.SortBool}} { // also what would stand for a term, if it were a name
		for i := 4; i < len(l); i++ {
			l[i].Name, l[i].Sort = odd.Name, odd.Sort
		}
		b := wantLoaded(t, l, nil)
		plain := wantLoaded(t, base(), nil)
		for n, want := range base() {
			wantTerm(t, b, n, want)
			wantText(t, "Print", text(t, b, n), text(t, plain, n))
		}
	}
}

// Each thing that is wrong with a term, in its order, and of two terms the first one.
func TestB6WrongTerms(t *testing.T) {
	x, p := name("x", api.SortReal), name("p", api.SortBool)
	for _, c := range []struct {
		wrong api.Term
		err   api.Errno
	}{
		{api.Term{Kind: api.TermNone, Kids: []int{9}}, api.ErrSyntax}, {api.Term{Kind: 17}, api.ErrSyntax}, {api.Term{Kind: -1}, api.ErrSyntax}, {truth(api.TermNot), api.ErrArity}, {truth(api.TermNot, 9, 9), api.ErrArity}, {truth(api.TermAnd, 1), api.ErrArity}, {truth(api.TermTrue, 1), api.ErrArity}, {api.Term{Kind: api.TermName, Kids: []int{0}}, api.ErrArity},
		{truth(api.TermNot, 2), api.ErrTerm}, {truth(api.TermNot, 3), api.ErrTerm}, {truth(api.TermNot, -1), api.ErrTerm}, {truth(api.TermAnd, 0, 2), api.ErrTerm}, {truth(api.TermNot, 0), api.ErrSort}, {truth(api.TermAnd, 1, 0), api.ErrSort}, {truth(api.TermEqual, 0, 1), api.ErrSort}, {amount(api.TermIte, 1, 0, 1), api.ErrSort}, {scale("2", 1), api.ErrSort},
		{name("z", 0), api.ErrSort}, {name("z", 3), api.ErrSort}, {name("", 0), api.ErrSort}, {name("x", -1), api.ErrSort}, {name("", api.SortReal), api.ErrPlain}, {name("a|b", api.SortBool), api.ErrPlain}, {name("\x00", api.SortBool), api.ErrPlain}, {x, api.ErrTerm}, {p, api.ErrTerm},
		// names that Stand would not give here
		{name("\x002", api.SortReal), api.ErrPlain}, {name("\x003", api.SortReal), api.ErrPlain}, {name("\x00-1", api.SortReal), api.ErrPlain}, {name("\x0000", api.SortReal), api.ErrPlain}, {name("\x00+0", api.SortReal), api.ErrPlain}, {name("\x00 0", api.SortReal), api.ErrPlain}, {name("\x000 ", api.SortReal), api.ErrPlain}, {name("\x00\x000", api.SortReal), api.ErrPlain},
		{name("\x000", api.SortBool), api.ErrPlain}, {name("\x001", api.SortReal), api.ErrPlain}, {name("\x000", 0), api.ErrSort}, {name("\x0099999999999999999999", api.SortReal), api.ErrPlain}, {name("\x000x1", api.SortReal), api.ErrPlain}, {name("0", 7), api.ErrSort},
	} {
		wantNotLoaded(t, []api.Term{x, p, c.wrong}, nil, c.err)
		wantNotLoaded(t, []api.Term{x, p, c.wrong, {Kind: 99}}, params("nobodyR"), c.err)
		wantNotLoaded(t, []api.Term{x, p, {Kind: 99}, c.wrong}, nil, api.ErrSyntax)
	}
	wantNotLoaded(t, []api.Term{truth(api.TermNot, 0)}, nil, api.ErrTerm)
	wantNotLoaded(t, []api.Term{truth(api.TermNot, 1), p}, nil, api.ErrTerm)
	wantNotLoaded(t, []api.Term{p, truth(api.TermNot, 0), truth(api.TermNot, 0)}, nil, api.ErrTerm)
	wantNotLoaded(t, []api.Term{number("1"), {Kind: api.TermNumber, Number: api.Rat{Num: api.Int{Abs: api.Nat{2}}, Den: api.Nat{2}}}}, nil, api.ErrTerm)
	odd := truth(api.TermTrue)
	odd.Sort, odd.Name = 9, "x"
	wantNotLoaded(t, []api.Term{truth(api.TermTrue), odd}, nil, api.ErrTerm)
	// One name of two sorts is two terms; a word of the language's own can be said.
	wantLoaded(t, []api.Term{x, name("x", api.SortBool), name("and", api.SortReal), name("let", api.SortBool)}, params("xB"))
}

// What Stand makes is loaded where the term for which it stands is ahead of it, and prints as that.
func TestB6Stands(t *testing.T) {
	l := []api.Term{name("x", api.SortReal), name("\x000", api.SortReal), name("\x001", api.SortReal), truth(api.TermLess, 2, 0), name("\x003", api.SortBool)}
	b := wantLoaded(t, l, params("xR"))
	for n, want := range []string{"x", "x", "x", "(< x x)", "(< x x)"} {
		wantText(t, "Print", text(t, b, n), want)
	}
	for of, want := range map[int]int{0: 1, 1: 2, 3: 4, 2: 5} {
		n, e := b.Stand(of)
		wantErr(t, "Stand", e, api.OK)
		wantNumber(t, "Stand", n, want)
	}
	wantNotAdded(t, b, name("\x000", api.SortReal), api.ErrUnknown)
	wantNotLoaded(t, l, []api.Param{{Name: "\x000", Sort: api.SortReal}}, api.ErrPlain)
}

func TestB6WrongNames(t *testing.T) {
	l := append(base(), name("and", api.SortReal))
	for _, c := range []struct {
		wrong api.Param
		err   api.Errno
	}{
		{api.Param{Name: "x", Sort: 0}, api.ErrSort}, {api.Param{Name: "", Sort: 3}, api.ErrSort}, {api.Param{Name: "", Sort: api.SortReal}, api.ErrPlain}, {api.Param{Name: "a|b", Sort: api.SortReal}, api.ErrPlain}, {api.Param{Name: "y", Sort: api.SortReal}, api.ErrDeclared}, {api.Param{Name: "y", Sort: api.SortBool}, api.ErrDeclared},
		{api.Param{Name: "and", Sort: api.SortReal}, api.ErrDeclared}, {api.Param{Name: "let", Sort: api.SortReal}, api.ErrDeclared}, {api.Param{Name: "x", Sort: api.SortBool}, api.ErrTerm}, {api.Param{Name: "p", Sort: api.SortReal}, api.ErrTerm}, {api.Param{Name: "nobody", Sort: api.SortReal}, api.ErrTerm},
	} {
		wantNotLoaded(t, l, append(params("yR"), c.wrong), c.err)
		wantNotLoaded(t, l, append(params("yR"), c.wrong, api.Param{}), c.err)
		wantNotLoaded(t, l, append(params("yR"), api.Param{}, c.wrong), api.ErrSort)
		wantNotLoaded(t, append(l, api.Term{}), append(params("yR"), c.wrong), api.ErrSyntax)
	}
}
