package simplex_test

import (
	"math"
	"math/rand"
	"testing"

	"fulcrum/api"
)

func TestS5NoSuchVariable(t *testing.T) {
	s, m := busyOne(t)
	for _, v := range far(s.Size()) {
		d, e := s.Value(v)
		wantErr(t, "Value", e, api.ErrVar)
		l, e := s.Limit(v)
		wantErr(t, "Limit", e, api.ErrVar)
		if !isBare(d) || !isBare(l.Lower.At) || !isBare(l.Upper.At) || l.Lower.Has || l.Upper.Has {
			t.Fatalf("%+v and %+v beside an error", d, l)
		}
	}
	wantLike(t, "Value and Limit", s, m)
}

// What only tells changes nothing.
func TestS5WhatOnlyTells(t *testing.T) {
	s, m := busyOne(t)
	for range 3 {
		wantLike(t, "what only tells", s, m)
	}
}

// Pivots counts those ahead of a clash too, and is not put back.
func TestS5Pivots(t *testing.T) {
	s := first(t)
	want := func(n int) {
		t.Helper()
		wantInt(t, "Pivots", s.Pivots(), n)
	}
	want(0)
	s.Push()
	lift(t, s, 2, plain("4"), 1)
	want(0)
	check(t, s)
	want(1)
	check(t, s)
	want(1)
	press(t, s, 3, plain("-2"), 2)
	check(t, s)
	want(2)
	press(t, s, 0, plain("0"), 3)
	press(t, s, 1, plain("3"), 4)
	l, e := s.Check()
	wantErr(t, "Check", e, api.ErrClash)
	wantInt(t, "multipliers", len(l), 3)
	behind := s.Pivots()
	if behind < 3 {
		t.Fatal("so few pivots", behind)
	}
	wantErr(t, "Back", s.Back(0), api.OK)
	want(behind)
	define(t, s, form("2", 0, "7", 1), 4)
	want(behind)
}

func TestS6Levels(t *testing.T) {
	s := first(t)
	for level := range 5 {
		wantInt(t, "Level", s.Level(), level)
		for _, wrong := range []int{-1, -2, level + 1, level + 2, math.MaxInt, math.MinInt} {
			wantErr(t, "Back", s.Back(wrong), api.ErrLevel)
			wantInt(t, "Level", s.Level(), level)
		}
		wantErr(t, "Back", s.Back(level), api.OK)
		wantInt(t, "Level", s.Level(), level)
		s.Push()
	}
	for _, level := range []int{3, 3, 1, 0, 0} {
		wantErr(t, "Back", s.Back(level), api.OK)
		wantInt(t, "Level", s.Level(), level)
	}
}

// Back puts back bounds with their whys; variables, rows, values and Pivots stay as they are.
func TestS6Back(t *testing.T) {
	s := first(t)
	lift(t, s, 2, plain("1"), 1)
	s.Push()
	lift(t, s, 2, plain("2"), 2)
	lift(t, s, 2, plain("3"), 3)
	press(t, s, 3, plain("-3"), 4)
	s.Push()
	lift(t, s, 2, plain("9"), 5)
	define(t, s, form("1", 0, "3", 1), 4)
	press(t, s, 4, plain("40"), 6)
	check(t, s)
	rows, values, pivots := polysOf(s.Tableau()), valuesOf(t, s), s.Pivots()
	if pivots < 2 {
		t.Fatal("so few pivots", pivots)
	}
	stays := func() {
		t.Helper()
		wantRows(t, "Back", s.Tableau(), 5, rows)
		wantValues(t, "Back", s, values...)
		wantInt(t, "Pivots", s.Pivots(), pivots)
	}
	wantErr(t, "Back", s.Back(2), api.OK)
	wantLimit(t, "the same level", s, 2, at(plain("9"), 5), nil)
	wantLimit(t, "the same level", s, 4, nil, at(plain("40"), 6))
	stays()
	wantErr(t, "Back", s.Back(1), api.OK)
	wantLimit(t, "level 1", s, 2, at(plain("3"), 3), nil)
	wantLimit(t, "level 1", s, 3, nil, at(plain("-3"), 4))
	wantLimit(t, "level 1", s, 4, nil, nil)
	stays()
	wantErr(t, "Back", s.Back(0), api.OK)
	wantLimit(t, "level 0", s, 2, at(plain("1"), 1), nil)
	wantLimit(t, "level 0", s, 3, nil, nil)
	stays()
}

// On from Back a variable whose value has stayed is moved by new bounds from where it is.
func TestS6ValuesBehindBack(t *testing.T) {
	s := first(t)
	s.Push()
	lift(t, s, 0, plain("5"), 1)
	wantErr(t, "Back", s.Back(0), api.OK)
	wantValues(t, "Back", s, wholes(5, 0, 5, 5)...)
	lift(t, s, 0, plain("4"), 2)
	wantValues(t, "Lift", s, wholes(5, 0, 5, 5)...)
	press(t, s, 0, plain("4"), 3)
	wantValues(t, "Press", s, wholes(4, 0, 4, 4)...)
}

func TestS6AnyLevels(t *testing.T) {
	r := rand.New(rand.NewSource(96))
	for range 200 {
		s, m := busy(t, r, 30)
		for why := range 6 {
			level := r.Intn(m.level+4) - 2
			wantErr(t, "Back", s.Back(level), m.back(level))
			wantLike(t, "Back", s, m)
			s.Push()
			m.level++
			step(t, r, s, m, 1000+why)
		}
	}
}
