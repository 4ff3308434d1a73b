package terms_test

import (
	"testing"

	"fulcrum/api"
	"fulcrum/terms"
)

// The chapter's six examples, behind Declare of x and p.

func exampleBank(t *testing.T) *terms.Bank {
	t.Helper()
	b := terms.New()
	for i, p := range params("xR", "pB") {
		n, e := b.Declare(p.Name, p.Sort)
		wantErr(t, "Declare", e, api.OK)
		wantNumber(t, "Declare", n, i)
	}
	return b
}

func TestExample1(t *testing.T) {
	b := exampleBank(t)
	wantNumber(t, "(< x 2)", read(t, b, "(< x 2)"), 3)
	wantTerm(t, b, 2, number("2"))
	wantTerm(t, b, 3, truth(api.TermLess, 0, 2))
	wantNumber(t, "(> 2.0 x)", read(t, b, "(> 2.0 x)"), 3)
	wantNumber(t, "(and p (not p))", read(t, b, "(and p (not p))"), 5)
	wantTerm(t, b, 4, truth(api.TermNot, 1))
	wantTerm(t, b, 5, truth(api.TermAnd, 1, 4))
	wantTerm(t, b, read(t, b, "(- (/ 1 2))"), number("-1/2"))
}

func TestExample2(t *testing.T) {
	b := exampleBank(t)
	wantTerm(t, b, read(t, b, "(* 2 (- 3) x)"), scale("-6", 0))
	wantRefused(t, b, "(* x x)", api.ErrLinear, "(* x x)")
	wantRefused(t, b, "(/ x 0)", api.ErrDivide, "(/ x 0)")
	wantRefused(t, b, "(+ x p)", api.ErrSort, "(+ x p)")
	wantRefused(t, b, "(not p p)", api.ErrArity, "(not p p)")
	wantRefused(t, b, "y", api.ErrUnknown, "y")
	wantRefused(t, b, "(and)", api.ErrArity, "(and)")
	wantRefused(t, b, "and", api.ErrSyntax, "and")
}

func TestExample3(t *testing.T) {
	b := exampleBank(t)
	n := read(t, b, "(let ((x 1) (y x)) (+ x y))")
	wantTerm(t, b, n, amount(api.TermAdd, 2, 0))
	wantTerm(t, b, 2, number("1"))
	in := node("(let ((x 1) (x 2)) x)")
	_, e, part := b.Read(in)
	wantErr(t, "x twice", e, api.ErrDeclared)
	wantText(t, "the second x", full(part), full(in.Kids[1].Kids[1].Kids[0]))
}

func TestExample4(t *testing.T) {
	b := exampleBank(t)
	define(t, b, "twice", params("aR"), api.SortReal, "(+ a a)")
	wantNumber(t, "Len", b.Len(), 2)
	wantTerm(t, b, read(t, b, "(twice (twice x))"), amount(api.TermAdd, 2, 2))
	wantTerm(t, b, 2, amount(api.TermAdd, 0, 0))
	wantRefused(t, b, "(twice p)", api.ErrSort, "(twice p)")
	wantRefused(t, b, "twice", api.ErrArity, "twice")
	e, part := b.Define("f", params("aR", "bR"), api.SortReal, node("(* a b)"))
	wantErr(t, "f", e, api.ErrLinear)
	wantText(t, "f", full(part), full(node("(* a b)")))
}

func TestExample5(t *testing.T) {
	b := exampleBank(t)
	read(t, b, "(< x 2)")
	define(t, b, "twice", params("aR"), api.SortReal, "(+ a a)")
	wantNumber(t, "(! (< x 2) :named small)", read(t, b, "(! (< x 2) :named small)"), 3)
	wantTerm(t, b, read(t, b, "(not small)"), truth(api.TermNot, 3))
	wantNumber(t, "Names", b.Names(), 4)
	wantErr(t, "Forget", b.Forget(2), api.OK)
	wantRefused(t, b, "small", api.ErrUnknown, "small")
}

func TestExample6(t *testing.T) {
	b := exampleBank(t)
	wantSays(t, b, "(* 2 (- 3) x)", "(* (- 6.0) x)")
	wantSays(t, b, "(>= x 1 2)", "(and (<= 1.0 x) (<= 2.0 1.0))")
}
