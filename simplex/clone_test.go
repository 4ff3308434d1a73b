package simplex_test

import (
	"math/rand"
	"testing"

	"fulcrum/api"
	"fulcrum/simplex"
)

func TestS8Clone(t *testing.T) {
	r := rand.New(rand.NewSource(98))
	for range 150 {
		s, m := busy(t, r, 10+r.Intn(50))
		c := s.Clone()
		wantLike(t, "Clone", c, m)
		wantLike(t, "what was cloned", s, m)
		n := m.clone()
		for why := range 40 {
			if r.Intn(2) == 0 {
				step(t, r, s, m, 1000+why)
			} else {
				step(t, r, c, n, 2000+why)
			}
		}
		wantLike(t, "what was cloned", s, m)
		wantLike(t, "Clone", c, n)
	}
}

// A clone has its own way back, and knows the forms that were defined.
func TestS8WhatACloneKnows(t *testing.T) {
	s := first(t)
	lift(t, s, 0, plain("1"), 1)
	s.Push()
	lift(t, s, 0, plain("2"), 2)
	lift(t, s, 3, plain("5"), 3)
	check(t, s)
	wantInt(t, "Pivots", s.Pivots(), 1)
	c := s.Clone()
	wantInt(t, "Pivots", c.Pivots(), 1)
	wantInt(t, "Level", c.Level(), 1)
	define(t, c, form("-1", 1, "1", 0), 3)
	define(t, c, form("7", 0), 4)
	define(t, s, form("8", 0), 4)
	define(t, s, form("7", 0), 5)
	define(t, c, form("8", 0), 5)
	wantErr(t, "Back", c.Back(0), api.OK)
	wantLimit(t, "Back of the clone", c, 0, at(plain("1"), 1), nil)
	wantLimit(t, "Back of the clone", s, 0, at(plain("2"), 2), nil)
	wantInt(t, "Level", s.Level(), 1)
	lift(t, c, 1, plain("9"), 4)
	wantValues(t, "what was cloned", s, wholes(5, 0, 5, 5, 40, 35)...)
	wantValues(t, "the clone", c, wholes(14, 9, 23, 5, 98, 112)...)
	press(t, s, 0, plain("4"), 5)
	check(t, s)
	wantInt(t, "Pivots", s.Pivots(), 2)
	wantInt(t, "Pivots", c.Pivots(), 1)
}

func TestS8CloneOfNothing(t *testing.T) {
	c := simplex.New().Clone()
	wantLike(t, "Clone", c, &model{})
	v, e := c.Var()
	wantErr(t, "Var", e, api.OK)
	wantInt(t, "Var", v, 0)
	define(t, c, nil, 1)
}

// A clone of a clone, and one that stands while the other goes through everything again.
func TestS8Clones(t *testing.T) {
	r := rand.New(rand.NewSource(918))
	s, m := busy(t, r, 20)
	var clones []*simplex.Simplex
	var models []*model
	for why := range 60 {
		step(t, r, s, m, 5000+why)
		clones, models = append(clones, s), append(models, m)
		s, m = s.Clone(), m.clone()
	}
	for i := range clones {
		wantLike(t, "a clone", clones[i], models[i])
	}
}
