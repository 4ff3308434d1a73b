package simplex_test

import (
	"testing"

	"fulcrum/api"
	"fulcrum/simplex"
)

// The five examples of the chapter, as they stand there.

// first does example 1.
func first(t *testing.T) *simplex.Simplex {
	t.Helper()
	s := started(t, 2)
	define(t, s, form("1", 0, "1", 1), 2)
	define(t, s, api.Form{{Var: 0, Coef: api.Rat{Num: num("2").Num, Den: api.Nat{2}}}}, 0)
	define(t, s, form("1", 1, "1", 0), 2)
	define(t, s, form("1", 0, "-1", 1), 3)
	return s
}

// firstModel is that, as a model.
func firstModel() *model {
	m := &model{}
	m.grow()
	m.grow()
	m.define(form("1", 0, "1", 1))
	m.define(form("1", 0, "-1", 1))
	return m
}

func TestExample1(t *testing.T) {
	s := first(t)
	wantInt(t, "Size", s.Size(), 4)
	wantTexts(t, s, map[int]string{2: "1*x0+1*x1", 3: "1*x0+-1*x1"})
}

func TestExample2(t *testing.T) {
	s := first(t)
	press(t, s, 2, plain("4"), 10)
	lift(t, s, 0, plain("3"), 11)
	lift(t, s, 1, plain("2"), 12)
	wantValues(t, "ahead", s, wholes(3, 2, 5, 1)...)
	l, e := s.Check()
	wantClash(t, "Check", l, e, by(10, "1", 11, "1", 12, "1"))
}

func TestExample3(t *testing.T) {
	s := first(t)
	press(t, s, 2, plain("4"), 10)
	lift(t, s, 0, plain("3"), 11)
	lift(t, s, 1, plain("1"), 12)
	check(t, s)
	wantValues(t, "Check", s, wholes(3, 1, 4, 2)...)
	lift(t, s, 3, plain("3"), 13)
	l, e := s.Check()
	wantClash(t, "Check", l, e, by(10, "1", 12, "2", 13, "1"))
	wantInt(t, "Pivots", s.Pivots(), 1)
	wantTexts(t, s, map[int]string{0: "1*x1+1*x3", 2: "2*x1+1*x3"})
	wantValues(t, "behind the clash", s, wholes(4, 1, 5, 3)...)
}

func TestExample4(t *testing.T) {
	s := first(t)
	lift(t, s, 0, plain("1"), 1)
	l, e := s.Press(0, pair("1", "-1"), 2)
	wantClash(t, "Press", l, e, by(2, "1", 1, "1"))
}

func TestExample5(t *testing.T) {
	s := first(t)
	lift(t, s, 0, plain("-7"), 4)
	s.Push()
	press(t, s, 0, plain("0"), 5)
	wantErr(t, "Back", s.Back(0), api.OK)
	wantLimit(t, "Back", s, 0, at(plain("-7"), 4), nil)
	wantValues(t, "Back", s, wholes(0, 0, 0, 0)...)
}
