package units_test

import (
	"fmt"
	"math"
	"testing"

	"fulcrum/api"
)

func TestU6Back(t *testing.T) {
	s := newStore(t, 6, api.Clause{6}, api.Clause{-1, 2}, api.Clause{-3, -2, 4})
	wantInt(t, "Propagate", s.Propagate(), -1)
	for _, lit := range []int{1, 3, -5} {
		decide(t, s, lit)
		wantInt(t, "Propagate", s.Propagate(), -1)
	}
	all := []api.Mark{at(6, 0, 0), at(1, 1, -1), at(2, 1, 1), at(3, 2, -1), at(4, 2, 2), at(-5, 3, -1)}
	left := []int{1, 3, 5, 6}
	wantMarks(t, "three levels", s.Marks(), all...)
	for level := 3; level >= 0; level-- {
		for range 2 { // the second time to the level itself
			back(t, s, level)
			wantInt(t, "Level", s.Level(), level)
			wantMarks(t, fmt.Sprint("back to ", level), s.Marks(), all[:left[level]]...)
			wantInt(t, "Propagate", s.Propagate(), -1)
			wantMarks(t, fmt.Sprint("back to ", level), s.Marks(), all[:left[level]]...)
		}
	}
	wantInt(t, "so many clauses", len(s.Clauses()), 3)
}

func TestU6SeveralLevelsAtOnce(t *testing.T) {
	for level := range 5 {
		s := newStore(t, 5, chain(5)...)
		decide(t, s, -1, -2, -3, -4)
		back(t, s, level)
		wantInt(t, "Level", s.Level(), level)
		wantLits(t, "what is left", s, []int{-1, -2, -3, -4}[:level]...)
		for atom := 1; atom <= 5; atom++ {
			v, _ := s.Value(atom)
			wantInt(t, "Value", v, map[bool]int{true: -1, false: 0}[atom <= level])
		}
		decide(t, s, 5)
		wantInt(t, "Level", s.Level(), level+1)
		quiet(t, "gone on with", s, append([]int{-1, -2, -3, -4}[:level:level], 5)...)
	}
}

func TestU6NoSuchLevel(t *testing.T) {
	s := newStore(t, 4, api.Clause{-1, 2})
	for _, level := range []int{1, 2, -1, math.MaxInt, math.MinInt} {
		wantErr(t, fmt.Sprint("Back to ", level), s.Back(level), api.ErrLevel)
	}
	decide(t, s, 1)
	quiet(t, "one level", s, 1, 2)
	decide(t, s, 4)
	for _, level := range []int{3, 4, -1, -2, math.MaxInt, math.MinInt} {
		wantErr(t, fmt.Sprint("Back to ", level), s.Back(level), api.ErrLevel)
		wantMarks(t, "behind an error", s.Marks(), at(1, 1, -1), at(2, 1, 0), at(4, 2, -1))
	}
}

// What was decided and forced may be decided and forced otherwise behind Back.
func TestU6OtherwiseBehindBack(t *testing.T) {
	s := newStore(t, 3, api.Clause{1, 2}, api.Clause{-2, 3})
	decide(t, s, -1)
	quiet(t, "the one way", s, -1, 2, 3)
	back(t, s, 0)
	decide(t, s, -3)
	quiet(t, "the other way", s, -3, -2, 1)
	back(t, s, 0)
	decide(t, s, -2)
	force(t, s, 1, 0)
	wantMarks(t, "by hand", s.Marks(), at(-2, 1, -1), at(1, 1, 0))
}

// Back leaves what is forced at the levels that stay, also where Propagate had come no further than a broken clause.
func TestU6BackFromABrokenClause(t *testing.T) {
	s := newStore(t, 6, api.Clause{-1, 2}, api.Clause{-3, -2, 4}, api.Clause{-3, -4}, api.Clause{-1, 5}, api.Clause{-5, 6})
	decide(t, s, 1, 3)
	if n := s.Propagate(); n < 0 {
		t.Fatal("no clause is broken")
	}
	back(t, s, 1)
	wantMarks(t, "back to the first level", s.Marks(), at(1, 1, -1))
	quiet(t, "what was not come to is forced now", s, 1, 2, 5, 6)
	decide(t, s, -3)
	quiet(t, "gone on with", s, 1, 2, -3, 5, 6)
}

// A store that was loaded goes back through levels that it did not begin, and forces what was left unforced there.
func TestU6BackOfALoadedStore(t *testing.T) {
	l := []api.Clause{{-1, 5}, {-2, 6}, {-1, -2, 7}, {-3, -1}, {-3, 2, 8}}
	marks := []api.Mark{at(1, 1, -1), at(2, 2, -1), at(4, 3, -1)}
	s := loaded(t, 8, l, marks...)
	quiet(t, "three levels", s, 1, 2, 4, 5, 6, 7, -3)
	back(t, s, 2)
	quiet(t, "two levels", s, 1, 2, 5, 6, 7, -3)
	back(t, s, 1)
	quiet(t, "one level", s, 1, 5, -3)
	back(t, s, 0)
	quiet(t, "no level", s)
	for level := 3; level >= 0; level-- { // without a Propagate ahead of Back
		s = loaded(t, 8, l, marks...)
		back(t, s, level)
		want := [][]int{{}, {1, 5, -3}, {1, 2, 5, 6, 7, -3}, {1, 2, 4, 5, 6, 7, -3}}
		quiet(t, "back at once", s, want[level]...)
	}
}

// Loaded with a broken clause: it is told till the level is left at which it broke.
func TestU6BackOfALoadedBrokenStore(t *testing.T) {
	s := loaded(t, 3, []api.Clause{{-1, -2}, {-1, 3}}, at(1, 1, -1), at(2, 2, -1), at(-3, 3, -1))
	if n := s.Propagate(); n != 0 && n != 1 {
		t.Fatal("Propagate:", n)
	}
	back(t, s, 2)
	wantInt(t, "Propagate", s.Propagate(), 0)
	back(t, s, 1)
	quiet(t, "back at the first level", s, 1, -2, 3)
}
