package units_test

import (
	"fmt"
	"math"
	"testing"

	"fulcrum/api"
)

func TestU3Value(t *testing.T) {
	s := newStore(t, 4, api.Clause{-1, -2})
	decide(t, s, 1)
	quiet(t, "two literals", s, 1, -2)
	for atom, want := range []int{0, 1, -1, 0, 0} {
		if atom > 0 {
			v, e := s.Value(atom)
			wantErr(t, "Value", e, api.OK)
			wantInt(t, fmt.Sprint("Value of ", atom), v, want)
		}
	}
	for _, atom := range append(noLits(4), -1, -2, -4) {
		v, e := s.Value(atom)
		wantErr(t, fmt.Sprint("Value of ", atom), e, api.ErrVar)
		wantInt(t, "Value beside an error", v, 0)
	}
}

func TestU3MarksAndLevel(t *testing.T) {
	s := newStore(t, 5, api.Clause{5}, api.Clause{-1, 2}, api.Clause{-3, -2, 4})
	wantInt(t, "Level", s.Level(), 0)
	force(t, s, 5, 0)
	wantInt(t, "Level", s.Level(), 0)
	decide(t, s, 1)
	wantInt(t, "Level", s.Level(), 1)
	force(t, s, 2, 1)
	wantInt(t, "Level", s.Level(), 1)
	decide(t, s, 3)
	force(t, s, 4, 2)
	wantInt(t, "Level", s.Level(), 2)
	wantMarks(t, "in their order", s.Marks(), at(5, 0, 0), at(1, 1, -1), at(2, 1, 1), at(3, 2, -1), at(4, 2, 2))
}

func TestU4Decide(t *testing.T) {
	s := newStore(t, 3, api.Clause{-1, 2})
	for _, lit := range noLits(3) {
		wantErr(t, fmt.Sprint("Decide of ", lit), s.Decide(lit), api.ErrArg)
	}
	decide(t, s, 1)
	quiet(t, "forced", s, 1, 2)
	for _, lit := range []int{1, -1, 2, -2} {
		wantErr(t, fmt.Sprint("Decide of ", lit), s.Decide(lit), api.ErrTrail)
	}
	wantMarks(t, "behind errors", s.Marks(), at(1, 1, -1), at(2, 1, 0))
	decide(t, s, -3)
	wantMarks(t, "decided", s.Marks(), at(1, 1, -1), at(2, 1, 0), at(-3, 2, -1))
}

// What clauses force may be decided all the same, and against them.
func TestU4DecideAgainstAClause(t *testing.T) {
	s := newStore(t, 2, api.Clause{1}, api.Clause{2})
	decide(t, s, -1, 2)
	wantMarks(t, "decided", s.Marks(), at(-1, 1, -1), at(2, 2, -1))
	wantInt(t, "Propagate", s.Propagate(), 0)
	decide(t, newStore(t, 1, api.Clause{}), 1)
}

func TestU4Force(t *testing.T) {
	s := newStore(t, 5, api.Clause{-1, 2}, api.Clause{3}, api.Clause{}, api.Clause{4, 4, -1}, api.Clause{5, -5, -1}, api.Clause{-1, 1})
	force(t, s, 3, 1)
	decide(t, s, 1)
	force(t, s, 2, 0)
	force(t, s, 4, 3)
	want := []api.Mark{at(3, 0, 1), at(1, 1, -1), at(2, 1, 0), at(4, 1, 3)}
	wantMarks(t, "forced", s.Marks(), want...)
	for _, lit := range []int{5, -5, 1, -1, 2, -2} { // by clauses that are true, that have it not, that are broken, that have its opposite
		for n := range 6 {
			wantErr(t, fmt.Sprint("Force of ", lit, " by ", n), s.Force(lit, n), api.ErrTrail)
		}
	}
	wantMarks(t, "behind errors", s.Marks(), want...)
}

// A clause of which two literals are open forces neither; one with a true one forces nothing.
func TestU4ForceByAClauseThatDoesNot(t *testing.T) {
	s := newStore(t, 4, api.Clause{1, 2, 3}, api.Clause{-4, -3})
	decide(t, s, -1)
	wantErr(t, "two open", s.Force(2, 0), api.ErrTrail)
	wantErr(t, "two open", s.Force(3, 0), api.ErrTrail)
	wantErr(t, "a false one", s.Force(1, 0), api.ErrTrail)
	wantErr(t, "an opposite", s.Force(-2, 0), api.ErrTrail)
	wantErr(t, "not there", s.Force(4, 0), api.ErrTrail)
	decide(t, s, 2)
	wantErr(t, "a true one", s.Force(3, 0), api.ErrTrail)
	back(t, s, 1)
	decide(t, s, -2)
	force(t, s, 3, 0)
	force(t, s, -4, 1)
	wantMarks(t, "forced", s.Marks(), at(-1, 1, -1), at(-2, 2, -1), at(3, 2, 0), at(-4, 2, 1))
}

func TestU4ForceOrderOfErrors(t *testing.T) {
	s := newStore(t, 2, api.Clause{1, 2})
	noClauses := []int{-1, -2, 1, 2, 1000, math.MaxInt, math.MinInt}
	for _, lit := range noLits(2) {
		for _, n := range append(noClauses, 0) {
			wantErr(t, fmt.Sprint("Force of ", lit, " by ", n), s.Force(lit, n), api.ErrArg)
		}
	}
	decide(t, s, 1)
	for _, lit := range []int{1, -1, 2, -2} {
		for _, n := range noClauses {
			wantErr(t, fmt.Sprint("Force of ", lit, " by ", n), s.Force(lit, n), api.ErrClause)
		}
		wantErr(t, fmt.Sprint("Force of ", lit), s.Force(lit, 0), api.ErrTrail)
	}
	wantMarks(t, "behind errors", s.Marks(), at(1, 1, -1))
}

// What was forced by hand goes on by Propagate, and what Propagate would force may be forced by hand ahead of it.
func TestU4ForceAndPropagate(t *testing.T) {
	s := newStore(t, 4, api.Clause{-1, 2}, api.Clause{-2, 3}, api.Clause{-3, 4})
	decide(t, s, 1)
	force(t, s, 2, 0)
	force(t, s, 3, 1)
	wantInt(t, "Propagate", s.Propagate(), -1)
	wantMarks(t, "by hand and by Propagate", s.Marks(), at(1, 1, -1), at(2, 1, 0), at(3, 1, 1), at(4, 1, 2))
}
