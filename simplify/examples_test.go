package simplify_test

import (
	"testing"

	"fulcrum/api"
	"fulcrum/simplify"
	"fulcrum/terms"
)

// The chapter's four examples.

func exampleBank(t *testing.T) *terms.Bank {
	t.Helper()
	b := terms.New()
	declare(t, b, "x", api.SortReal)
	declare(t, b, "y", api.SortReal)
	declare(t, b, "p", api.SortBool)
	return b
}

func TestExample1(t *testing.T) {
	b := exampleBank(t)
	wantAffine(t, b, read(t, b, "(+ (* 2 x) (- y) 3 x)"), affine("3", 0, "3", 1, "-1"))
	wantReal(t, b, affine("3", 0, "3", 1, "-1"), "(+ (* 3.0 x) (* (- 1.0) y) 3.0)")
	wantInt(t, "Real of 1 v0", wantReal(t, b, affine("0", 0, "1"), "x"), 0)
	five := wantReal(t, b, affine("5", 0, "0"), "5.0")
	wantInt(t, "a number", get(t, b, five).Kind, api.TermNumber)
	wantNoReal(t, b, affine("0", 2, "1"), api.ErrVar)
}

func TestExample2(t *testing.T) {
	b := exampleBank(t)
	ite := read(t, b, "(ite p x y)")
	wantInt(t, "the ite", ite, 3)
	l := lift(t, b, read(t, b, "(< (ite p x y) 2)"))
	wantInt(t, "Stands", len(l.Stands), 1)
	wantText(t, "its name", get(t, b, l.Stands[0]).Name, "\x003")
	for _, v := range [][]api.Binding{binds("x=1", "y=2", "p=true"), binds("x=1", "y=2", "p=false"), binds("x=3", "y=3", "p=false")} {
		wantLifted(t, b, read(t, b, "(< (ite p x y) 2)"), l, v)
	}
}

func TestExample3(t *testing.T) {
	b := exampleBank(t)
	wantNormal(t, b, "(< (* 2 x) 3)", "(< x (/ 3.0 2.0))")
	wantNormal(t, b, "(> x 2)", "(not (<= x 2.0))")
	wantNormal(t, b, "(<= 2 x)", "(not (< x 2.0))")
	n := normal(t, b, read(t, b, "(= x 2)"))
	if text := print(t, b, n); text != "(and (<= x 2.0) (not (< x 2.0)))" && text != "(and (not (< x 2.0)) (<= x 2.0))" {
		t.Fatal(text)
	}
	wantNormal(t, b, "(< x x)", "false")
}

func TestExample4(t *testing.T) {
	b := exampleBank(t)
	wantNormal(t, b, "(and p (not p))", "false")
	wantNormal(t, b, "(not (not p))", "p")
	is, e := simplify.Is(b, read(t, b, "(not (not p))"))
	wantErr(t, "Is", e, api.OK)
	wantTruth(t, "Is of a TermNot of a TermNot", is, false)
}
