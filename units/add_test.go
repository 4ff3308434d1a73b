package units_test

import (
	"fmt"
	"math/rand"
	"testing"

	"fulcrum/api"
)

// Clauses are told as they were added: in their order, with what stands in them twice.
func TestU2Clauses(t *testing.T) {
	l := []api.Clause{{1, 2}, {}, {3, -1, 3, 1}, {-2, -2}, nil, {2, 1}, {1, 2}}
	s := newStore(t, 3, l...)
	wantClauses(t, "added", s.Clauses(), l...)
	s.Propagate()
	wantClauses(t, "behind Propagate", s.Clauses(), l...)
}

// Whatever moves among what watches, the clauses stay as they were added.
func TestU2ClausesStay(t *testing.T) {
	r := rand.New(rand.NewSource(2))
	for range 300 {
		s, m := busy(t, r, 60)
		wantClauses(t, "behind calls", s.Clauses(), m.clauses...)
	}
}

func TestU2AddForcesNothing(t *testing.T) {
	s := newStore(t, 2, api.Clause{1})
	wantMarks(t, "behind Add", s.Marks())
	decide(t, s, -2)
	add(t, s, api.Clause{2, -1}, 1)
	wantMarks(t, "behind Add", s.Marks(), at(-2, 1, -1))
}

func TestU2NoLiterals(t *testing.T) {
	s := newStore(t, 3, api.Clause{1, 2})
	for _, lit := range noLits(3) {
		for _, c := range []api.Clause{{lit}, {1, lit}, {lit, -3}, {1, lit, 2}, {lit, lit}} {
			n, e := s.Add(c)
			wantErr(t, fmt.Sprint("Add of ", c), e, api.ErrClause)
			wantInt(t, "Add beside an error", n, 0)
		}
	}
	wantClauses(t, "behind errors", s.Clauses(), api.Clause{1, 2})
	add(t, s, api.Clause{-3, 3}, 1)
}

func TestU2AddToTheLimit(t *testing.T) {
	s := newStore(t, 2)
	for n := range api.MaxClauses {
		add(t, s, api.Clause{1 - 2*(n%2), 2}, n)
	}
	for range 3 {
		n, e := s.Add(api.Clause{1})
		wantErr(t, "Add beyond the limit", e, api.ErrFull)
		wantInt(t, "Add beyond the limit", n, 0)
		_, e = s.Add(api.Clause{3})
		wantErr(t, "Add of what is no literal, beyond the limit", e, api.ErrClause)
	}
	l := s.Clauses()
	wantInt(t, "so many clauses", len(l), api.MaxClauses)
	wantClauses(t, "the last ones", l[api.MaxClauses-2:], api.Clause{1, 2}, api.Clause{-1, 2})
	quiet(t, "full", s)
	decide(t, s, -2)
	n := s.Propagate()
	if n < 0 || n >= api.MaxClauses {
		t.Fatal("Propagate:", n)
	}
	back(t, s, 0)
	decide(t, s, 1)
	quiet(t, "full", s, 1, 2)
}
