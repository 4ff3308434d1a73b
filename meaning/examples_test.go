package meaning_test

import (
	"testing"

	"fulcrum/api"
	"fulcrum/meaning"
)

// The chapter's five examples.

func TestExample1(t *testing.T) {
	b := bank(t)
	wantSays(t, b, "(ite p (+ x 1) y)", binds("p=true", "x=2", "y=0"), "3")
	wantNoValue(t, b, read(t, b, "(ite p (+ x 1) y)"), binds("p=true", "x=2"), api.ErrValue)
}

func TestExample2(t *testing.T) {
	b := bank(t)
	wantSays(t, b, "(distinct x y 2)", binds("x=1", "y=2"), "false")
	wantSays(t, b, "(distinct x y 2)", binds("x=1", "y=3"), "true")
}

func TestExample3(t *testing.T) {
	b := bank(t)
	wantNames(t, b, read(t, b, "(and p (< x y) (< y x))"), "p", "x", "y")
}

func TestExample4(t *testing.T) {
	b := bank(t)
	v := binds("x=1", "y=2", "p=false")
	wantHolds(t, b, readAll(t, b, "(< x y)", "p"), v, false)
	wantHolds(t, b, nil, v, true)
	wantNotHeld(t, b, readAll(t, b, "(+ x y)"), v, api.ErrSort)
}

func TestExample5(t *testing.T) {
	b := bank(t)
	l := readAll(t, b, "(< x y)", "p")
	wantComplete(t, b, l, binds("y=2"), binds("y=2", "p=false", "x=0"))
	got, e := meaning.Complete(b, l, binds("y=2"))
	wantErr(t, "Complete", e, api.OK)
	wantHolds(t, b, l, got, false)
}
