package search_test

import (
	"math"
	"testing"

	"fulcrum/api"
	"fulcrum/search"
)

// F1: New, Atoms, Grow, Add.

func TestF1New(t *testing.T) {
	for _, atoms := range []int{-1, -2, -api.MaxTerms, math.MinInt} {
		s, e := search.New(atoms, nil)
		wantErr(t, "New", e, api.ErrArg)
		if s != nil {
			t.Fatal("a solver beside an error")
		}
	}
	for _, atoms := range []int{api.MaxTerms + 1, api.MaxClauses, math.MaxInt} {
		s, e := search.New(atoms, &witness{})
		wantErr(t, "New", e, api.ErrFull)
		if s != nil {
			t.Fatal("a solver beside an error")
		}
	}
	for _, atoms := range []int{0, 1, 2, 77, api.MaxTerms} {
		w := &witness{atoms: atoms}
		s := newSolver(t, atoms, w)
		wantInt(t, "how many steps a new solver has", len(s.Steps()), 0)
		wantInt(t, "how often New calls the theory", w.calls, 0)
	}
}

func TestF1NoAtoms(t *testing.T) {
	p := &problem{}
	s := newSolver(t, 0, nil)
	wantSat(t, "nothing", solve(t, s, p))
	for _, lit := range noLits(0) {
		wantErr(t, "Add", s.Add(api.Clause{lit}), api.ErrClause)
		_, e := s.Solve(lits(lit))
		wantErr(t, "Solve", e, api.ErrArg)
	}
	w := &witness{}
	s = newSolver(t, 0, w)
	wantSat(t, "nothing", solve(t, s, p))
	wantInt(t, "how often Final is asked", w.final, 1)
	p.clauses = []api.Clause{{}}
	add(t, s, p.clauses...)
	wantUnsat(t, "the empty clause", solve(t, s, p))
	wantSteps(t, p, s.Steps(), nil)
}

func TestF1Grow(t *testing.T) {
	p := &problem{atoms: 3, clauses: []api.Clause{{1, 2}}}
	s := newSolver(t, 3, nil, p.clauses...)
	wantErr(t, "Add", s.Add(api.Clause{4}), api.ErrClause)
	_, e := s.Solve(lits(-4))
	wantErr(t, "Solve", e, api.ErrArg)
	wantRight(t, s, p, -1)
	for n := 4; n < 12; n++ {
		grow(t, s, n)
		p.atoms = n
		c := api.Clause{-n, 1 - n}
		p.clauses = append(p.clauses, c)
		add(t, s, c)
		wantRight(t, s, p, n)
		wantRight(t, s, p, n, n-1)
		wantErr(t, "Add", s.Add(api.Clause{n + 1}), api.ErrClause)
	}
	wantSteps(t, p, s.Steps(), nil)
}

func TestF1GrowUpToTheLimit(t *testing.T) {
	s := newSolver(t, api.MaxTerms-2, nil)
	p := &problem{atoms: api.MaxTerms - 2}
	wantSat(t, "ahead", solve(t, s, p))
	grow(t, s, api.MaxTerms-1)
	grow(t, s, api.MaxTerms)
	for range 3 {
		n, e := s.Grow()
		wantErr(t, "Grow behind the limit", e, api.ErrFull)
		wantInt(t, "Grow beside an error", n, 0)
		wantInt(t, "Atoms", s.Atoms(), api.MaxTerms)
	}
	p.atoms = api.MaxTerms
	p.clauses = []api.Clause{{-api.MaxTerms, 1}, {api.MaxTerms}}
	add(t, s, p.clauses...)
	wantSat(t, "at the limit", solve(t, s, p))
	wantUnsat(t, "at the limit", solve(t, s, p, -1), -1)
	_, e := s.Grow()
	wantErr(t, "Grow behind Solve", e, api.ErrFull)
	wantErr(t, "Add", s.Add(api.Clause{api.MaxTerms + 1}), api.ErrClause)

	s = newSolver(t, 0, nil)
	for n := range api.MaxTerms {
		grow(t, s, n+1)
	}
	_, e = s.Grow()
	wantErr(t, "Grow behind the limit", e, api.ErrFull)
	wantSat(t, "grown from nothing", solve(t, s, &problem{atoms: api.MaxTerms}))
}

func TestF1Add(t *testing.T) {
	p := &problem{atoms: 3}
	s := newSolver(t, 3, nil)
	for range 2 {
		for _, lit := range noLits(3) {
			for _, c := range []api.Clause{{lit}, {1, lit}, {lit, 1}, {2, lit, -3}} {
				wantErr(t, "Add of what is no literal", s.Add(c), api.ErrClause)
			}
		}
		wantSteps(t, p, s.Steps(), nil)
		for _, c := range []api.Clause{{1, 1}, {2, -2}, {-3, -3, 1, -3}, {2, -2, 2}, {3, -1, -3}, {3, 2, 1}} {
			p.clauses = append(p.clauses, c)
			add(t, s, c)
			wantRight(t, s, p, -2)
			wantRight(t, s, p, -1, 2)
			wantRight(t, s, p, 3)
		}
		wantSteps(t, p, s.Steps(), nil)
	}
	p.clauses = append(p.clauses, api.Clause{})
	add(t, s, api.Clause{})
	wantUnsat(t, "the empty clause", wantRight(t, s, p, 1))
	wantErr(t, "Add behind that", s.Add(api.Clause{4}), api.ErrClause)
	p.clauses = append(p.clauses, api.Clause{1, 2}, nil)
	add(t, s, api.Clause{1, 2}, nil)
	wantUnsat(t, "and behind others", wantRight(t, s, p))
	wantSteps(t, p, s.Steps(), nil)
}

// All clauses count, those that come last too; and there is room for what is learnt.
func TestF1AddUpToTheLimit(t *testing.T) {
	n, l := holes(4)
	p := &problem{atoms: n + 2}
	s := newSolver(t, p.atoms, nil)
	count := 0
	for count < api.MaxClauses-len(l)-1 {
		if s.Add(api.Clause{n + 1, n + 2}) != api.OK {
			t.Fatal("Add ahead of the limit")
		}
		count++
	}
	f, e := s.Solve(lits(-n - 1))
	if e != api.OK || f.Kind != api.SearchSat || !f.Model[n+2] {
		t.Fatal("what was added ahead:", e, f)
	}
	add(t, s, append(l[1:], api.Clause{-n - 1, -n - 2})...)
	f, e = s.Solve(lits(-n - 2))
	if e != api.OK || f.Kind != api.SearchSat {
		t.Fatal("without one clause:", e, f)
	}
	add(t, s, l[0])
	for _, c := range []api.Clause{{1}, {}, nil, {1, 2}} {
		wantErr(t, "Add behind the limit", s.Add(c), api.ErrFull)
	}
	wantErr(t, "the order of the errors", s.Add(api.Clause{0}), api.ErrClause)
	f, e = s.Solve(lits(n + 1))
	if e != api.OK || f.Kind != api.SearchUnsat {
		t.Fatal("all clauses:", e, f)
	}
	wantErr(t, "Add behind Solve", s.Add(api.Clause{1}), api.ErrFull)
	steps := s.Steps()
	inputs := 0
	for i, step := range steps {
		switch {
		case step.Kind == api.StepInput:
			inputs++
		case !follows(steps, i):
			t.Fatal("a step does not follow:", step)
		}
	}
	wantInt(t, "how many inputs", inputs, api.MaxClauses)
	wantCore(t, lits(n+1), f, steps)
}
