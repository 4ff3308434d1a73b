package terms_test

import (
	"fmt"
	"math"
	"strings"
	"testing"

	"fulcrum/api"
	"fulcrum/terms"
)

func wantNotDeclared(t *testing.T, b *terms.Bank, name string, sort int, err api.Errno) {
	t.Helper()
	was := dump(b)
	n, e := b.Declare(name, sort)
	wantErr(t, fmt.Sprintf("Declare of %q", name), e, err)
	wantNumber(t, "Declare", n, 0)
	wantText(t, "the bank", dump(b), was)
}

// unsaid are names that no symbol says, and the empty one, that can't be said all the same.
var unsaid = []string{"", "|", "a|b", "\\", "a\\", "\x00", "\x000", "a\x01", "\x7f", "\x1fa"}

func TestB2WrongNames(t *testing.T) {
	b := bank(t)
	define(t, b, "m", params("aR"), api.SortReal, "a")
	define(t, b, "m0", nil, api.SortReal, "x")
	read(t, b, "(! p :named n)")
	for _, sort := range []int{api.SortNone, -1, 3, math.MaxInt, math.MinInt} {
		for _, name := range []string{"z", "x", "", "and", "a|b"} {
			wantNotDeclared(t, b, name, sort, api.ErrSort)
		}
	}
	for _, sort := range []int{api.SortBool, api.SortReal} {
		for _, name := range unsaid {
			wantNotDeclared(t, b, name, sort, api.ErrPlain)
		}
		for _, name := range append([]string{"x", "p", "m", "m0", "n"}, ownWords...) {
			wantNotDeclared(t, b, name, sort, api.ErrDeclared)
		}
	}
}

// Names that look like something else are names like others; a macro's parameter is no name outside of it.
func TestB2RightNames(t *testing.T) {
	b := bank(t)
	define(t, b, "m", params("aR"), api.SortReal, "a")
	for i, name := range []string{"a", "X", "AND", "True", "1", "1.5", "a b", ":k", "(", "\"", ";", "é", "\xff", " ", "named", "=<", "--", "define-fun", "#x1", strings.Repeat("z", 1000)} {
		n, e := b.Declare(name, 1+i%2)
		wantErr(t, name, e, api.OK)
		wantNumber(t, name, n, 4+i)
		wantTerm(t, b, n, api.Term{Kind: api.TermName, Name: name, Sort: 1 + i%2})
		v, e, _ := b.Read(symbol(name))
		wantErr(t, name, e, api.OK)
		wantNumber(t, name, v, n)
		wantNumber(t, text(t, b, n), read(t, b, text(t, b, n)), n)
		wantNotDeclared(t, b, name, api.SortReal, api.ErrDeclared)
	}
}

func TestB2Declared(t *testing.T) {
	b := bank(t)
	define(t, b, "m", nil, api.SortReal, "x")
	b.Declare("z", api.SortBool)
	read(t, b, "(! p :named n)")
	b.Declare("w", api.SortReal)
	wantText(t, "Declared", fmt.Sprint(b.Declared()), fmt.Sprint(params("xR", "yR", "pB", "qB", "zB", "wR")))
	wantNumber(t, "Names", b.Names(), 8)
}

func TestB2Forget(t *testing.T) {
	b := bank(t)
	define(t, b, "m", params("aR"), api.SortReal, "(+ a x)")
	read(t, b, "(! (and p q) :named n)")
	terms := b.Len()
	for _, names := range []int{-1, 7, 8, math.MaxInt, math.MinInt} {
		was := dump(b)
		wantErr(t, "Forget", b.Forget(names), api.ErrArg)
		wantText(t, "the bank", dump(b), was)
	}
	wantErr(t, "Forget", b.Forget(6), api.OK)
	wantNumber(t, "n", read(t, b, "n"), terms-1)
	wantErr(t, "Forget", b.Forget(5), api.OK)
	wantRefused(t, b, "n", api.ErrUnknown, "n")
	wantSays(t, b, "(m y)", "(+ y x)")
	wantErr(t, "Forget", b.Forget(4), api.OK)
	wantRefused(t, b, "(m y)", api.ErrUnknown, "m")
	wantErr(t, "Forget", b.Forget(1), api.OK)
	wantRefused(t, b, "(+ x y)", api.ErrUnknown, "y")
	wantSays(t, b, "(+ x x)", "(+ x x)")
	wantErr(t, "Forget", b.Forget(0), api.OK)
	wantRefused(t, b, "x", api.ErrUnknown, "x")
	wantNumber(t, "Declared", len(b.Declared()), 0)
	wantText(t, "the terms stay", text(t, b, terms-1), "(and p q)")
}

// A name that is given again with its sort is the same term; with the other sort it is another one, and both stay.
func TestB2GivenAgain(t *testing.T) {
	b := bank(t)
	wantErr(t, "Forget", b.Forget(0), api.OK)
	for i, c := range []struct{ sort, n int }{{api.SortReal, 0}, {api.SortBool, 4}, {api.SortReal, 0}, {api.SortBool, 4}} {
		n, e := b.Declare("x", c.sort)
		wantErr(t, "Declare", e, api.OK)
		wantNumber(t, fmt.Sprint("x for the time ", i), n, c.n)
		wantAdd(t, b, name("x", 3-c.sort), c.n)
		wantNumber(t, "x", read(t, b, "x"), c.n)
		wantErr(t, "Forget", b.Forget(0), api.OK)
	}
	wantTerm(t, b, 0, name("x", api.SortReal))
	wantTerm(t, b, 4, name("x", api.SortBool))
	define(t, b, "x", nil, api.SortBool, "true")
	wantNotAdded(t, b, name("x", api.SortReal), api.ErrUnknown)
	wantSays(t, b, "x", "true")
}

func TestB2aStand(t *testing.T) {
	b := bank(t)
	n := read(t, b, "(and p (< x 2))")
	for i, c := range []struct{ of, sort int }{{0, api.SortReal}, {2, api.SortBool}, {n, api.SortBool}, {4, api.SortReal}, {5, api.SortBool}} {
		want := n + 1 + i
		for range 2 {
			v, e := b.Stand(c.of)
			wantErr(t, "Stand", e, api.OK)
			wantNumber(t, "Stand", v, want)
			wantTerm(t, b, v, name(fmt.Sprintf("\x00%d", c.of), c.sort))
		}
		wantText(t, "Print", text(t, b, want), text(t, b, c.of))
	}
	wantNumber(t, "Names", b.Names(), 4)
	wantNumber(t, "Declared", len(b.Declared()), 4)
	wantErr(t, "Forget", b.Forget(0), api.OK)
	v, e := b.Stand(2)
	wantErr(t, "Stand", e, api.OK)
	wantNumber(t, "Stand behind a Forget", v, n+2)
}

// A constant that stands for a term is a kid like others, and prints as that term, also where it stands for one that stands itself.
func TestB2aStandsInTerms(t *testing.T) {
	b := bank(t)
	of := read(t, b, "(ite p x y)")
	first, _ := b.Stand(of)
	second, _ := b.Stand(first)
	third, _ := b.Stand(second)
	wantTerm(t, b, third, name(fmt.Sprintf("\x00%d", second), api.SortReal))
	n, e := b.Add(amount(api.TermAdd, first, 0, third))
	wantErr(t, "Add", e, api.OK)
	wantText(t, "Print", text(t, b, n), "(+ (ite p x y) x (ite p x y))")
	s, e := b.Stand(n)
	wantErr(t, "Stand", e, api.OK)
	n, e = b.Add(truth(api.TermLess, s, second))
	wantErr(t, "Add", e, api.OK)
	wantText(t, "Print", text(t, b, n), "(< (+ (ite p x y) x (ite p x y)) (ite p x y))")
	wantNotAdded(t, b, truth(api.TermNot, s), api.ErrSort)
}

// No symbol says it, neither alone nor as a head; nor is it declared, and a let that binds its name binds that alone.
func TestB2aNoSymbolSaysIt(t *testing.T) {
	b := bank(t)
	s, _ := b.Stand(0)
	own := get(t, b, s).Name
	for _, n := range []api.Node{symbol(own), list(symbol(own), symbol("x"))} {
		was := dump(b)
		v, e, part := b.Read(n)
		wantErr(t, "Read", e, api.ErrUnknown)
		wantNumber(t, "Read", v, 0)
		wantText(t, "the part", full(part), full(symbol(own)))
		wantText(t, "the bank", dump(b), was)
	}
	wantNotDeclared(t, b, own, api.SortReal, api.ErrPlain)
	v, e, _ := b.Read(list(symbol("let"), list(list(symbol(own), symbol("y"))), symbol(own)))
	wantErr(t, "let", e, api.OK)
	wantNumber(t, "let", v, 1)
}

// Of a Bank that nobody gave nothing is told, and all else is ErrArg.
func TestB1NobodysBank(t *testing.T) {
	for _, b := range []*terms.Bank{nil, {}} {
		wantNumber(t, "Len", b.Len(), 0)
		wantNumber(t, "Names", b.Names(), 0)
		wantNumber(t, "Declared", len(b.Declared()), 0)
		got, e := b.Get(0)
		wantErr(t, "Get", e, api.ErrArg)
		wantText(t, "Get", told(got), told(api.Term{}))
		n, e := b.Add(truth(api.TermTrue))
		wantErr(t, "Add", e, api.ErrArg)
		wantNumber(t, "Add", n, 0)
		n, e = b.Declare("x", api.SortReal)
		wantErr(t, "Declare", e, api.ErrArg)
		wantNumber(t, "Declare", n, 0)
		e, part := b.Define("f", nil, 0, symbol("nobody"))
		wantErr(t, "Define", e, api.ErrArg)
		wantText(t, "Define", full(part), full(api.Node{}))
		for _, names := range []int{0, 1, -1} {
			wantErr(t, "Forget", b.Forget(names), api.ErrArg)
		}
		n, e = b.Stand(0)
		wantErr(t, "Stand", e, api.ErrArg)
		wantNumber(t, "Stand", n, 0)
		n, e, part = b.Read(symbol("true"))
		wantErr(t, "Read", e, api.ErrArg)
		wantNumber(t, "Read", n, 0)
		wantText(t, "Read", full(part), full(api.Node{}))
		s, e := b.Print(0)
		wantErr(t, "Print", e, api.ErrArg)
		wantText(t, "Print", s, "")
		wantNumber(t, "Len", b.Len(), 0)
	}
}
