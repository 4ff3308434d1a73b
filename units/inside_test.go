package units

import (
	"testing"

	"fulcrum/api"
)

// What is kept inside, which no answer tells: that clauses stand where they are watched, and that none is put aside more than once.

// draw is numbers by a short rule.
type draw uint32

func (d *draw) below(n int) int {
	*d = *d*1664525 + 1013904223
	return int(*d>>8) % n
}

func (d *draw) lit(atoms int) int {
	lit := 1 + d.below(atoms)
	if d.below(2) == 0 {
		return -lit
	}
	return lit
}

// step is some call of a store.
func (d *draw) step(s *Store) {
	switch d.below(8) {
	case 0:
		var c api.Clause
		for range d.below(6) {
			c = append(c, d.lit(s.Atoms()))
		}
		if len(c) > 0 {
			s.Add(c)
		}
	case 1, 2, 3:
		s.Decide(d.lit(s.Atoms()))
	case 4:
		s.Back(max(s.Level()-d.below(3), 0))
	default:
		if s.Propagate() >= 0 {
			s.Back(max(s.Level()-d.below(3), 0))
		}
	}
}

func wantInside(t *testing.T, s *Store) {
	t.Helper()
	stand := 0
	for n, c := range s.clauses {
		if c.by[0] == c.by[1] && c.by[0] != 0 {
			t.Fatal("watched by one literal twice:", n)
		}
		for side, lit := range c.by {
			if lit != 0 {
				stand++
				if s.watchers[list(lit)][c.at[side]] != n {
					t.Fatal("it does not stand where it is watched:", n, lit)
				}
			}
		}
	}
	for _, l := range s.watchers {
		stand -= len(l)
	}
	if stand != 0 {
		t.Fatal("so many stand where they are not watched:", -stand)
	}
	aside := map[int]int{}
	for _, n := range s.fresh {
		aside[n]++
	}
	level := 0
	for _, l := range s.late {
		aside[l.clause]++
		if l.level < level || l.level > s.Level() {
			t.Fatal("late at level", l.level, "behind", level, "of", s.Level())
		}
		level = l.level
	}
	for n, times := range aside {
		if times > 1 {
			t.Fatal("put aside more than once:", n, s.fresh, s.late)
		}
	}
}

func TestClausesStandWhereTheyAreWatched(t *testing.T) {
	d := draw(20)
	deepest, late := 0, 0
	for range 200 {
		s, _ := New(30)
		for range 300 {
			d.step(s)
			wantInside(t, s)
			deepest, late = max(deepest, s.Level()), max(late, len(s.late))
		}
	}
	if deepest < 10 || late < 5 {
		t.Fatal("so many levels, and so many that are late:", deepest, late)
	}
}

// Behind Propagate no literal by which a clause is watched is false, but where the other one is true and stays so as long, or the clause is late.
func TestWhatWatchesIsNotFalse(t *testing.T) {
	d := draw(21)
	for range 3000 {
		s, _ := New(12)
		for range 60 {
			d.step(s)
		}
		if s.Propagate() >= 0 {
			continue
		}
		late := map[int]int{}
		for _, l := range s.late {
			late[l.clause] = 1
		}
		for n, c := range s.clauses {
			if s.falls(c.by[0]) == never && s.falls(c.by[1]) == never || s.isSafe(c.by) {
				continue
			}
			if s.truth(c.by[0]) <= 0 && s.truth(c.by[1]) <= 0 || late[n] == 0 {
				t.Fatal("it does not watch:", n, c, s.marks)
			}
		}
	}
}

// wantWatched: by these two, in either order.
func wantWatched(t *testing.T, what string, s *Store, one, other int) {
	t.Helper()
	if by := s.clauses[0].by; by != [2]int{one, other} && by != [2]int{other, one} {
		t.Fatalf("%s: watched by %v, not by %d and %d", what, by, one, other)
	}
}

// A search for what watches goes on where the last one ended, not at the clause's beginning, so that long clauses are not gone over again and again.
func TestASearchGoesOn(t *testing.T) {
	s, _ := New(6)
	s.Add(api.Clause{1, 2, 3, 4, 5, 6})
	s.Propagate()
	wantWatched(t, "at first", s, 1, 2)
	for i, want := range [][2]int{{2, 3}, {2, 4}, {4, 5}, {4, 6}, {1, 4}, {2, 4}} {
		s.Decide(-[]int{1, 3, 2, 5, 6, 1}[i])
		s.Propagate()
		wantWatched(t, "one of them became false", s, want[0], want[1])
		s.Back(0)
	}
}

// A clause all of whose literals but one are false is watched by the one that became so last: it is late only where none did so at the last level.
func TestTheLastOneThatBecameFalseWatches(t *testing.T) {
	for _, order := range [][]int{{1, 2, 3, 4}, {4, 3, 2, 1}, {3, 1, 4, 2}, {2, 4, 1, 3}} {
		for _, further := range []int{0, 1} {
			s, _ := New(6)
			for _, atom := range order[:3] {
				s.Decide(-atom)
			}
			if further > 0 {
				s.Decide(5)
			}
			s.Propagate()
			s.Add(api.Clause{1, 2, 3, 4})
			s.Propagate()
			wantWatched(t, "one literal is not false", s, order[2], order[3])
			if len(s.late) != further {
				t.Fatal("so many are late:", len(s.late))
			}
			for level := s.Level() - 1; level > 0; level-- {
				s.Back(level)
				s.Propagate()
				if len(s.late) > 0 {
					t.Fatal("late at level", level)
				}
			}
		}
	}
}
