package search_test

import (
	"slices"
	"testing"

	"fulcrum/api"
)

// The chapter's examples.

func wantUnsat(t *testing.T, what string, f api.Found, core ...int) {
	t.Helper()
	if f.Kind != api.SearchUnsat || !slices.Equal(f.Core, core) {
		t.Fatalf("%s: %+v, not the Core %v", what, f, core)
	}
}

func wantSat(t *testing.T, what string, f api.Found) {
	t.Helper()
	if f.Kind != api.SearchSat {
		t.Fatalf("%s: %+v", what, f)
	}
}

func TestExample1(t *testing.T) {
	p := &problem{atoms: 2, clauses: []api.Clause{{1, 2}, {-1, 2}}}
	s := newSolver(t, 2, nil, p.clauses...)
	f := solve(t, s, p)
	wantSat(t, "Solve", f)
	if !f.Model[2] {
		t.Errorf("the Model %v", f.Model)
	}
	wantUnsat(t, "Solve(-2)", solve(t, s, p, -2), -2)
	p.clauses = append(p.clauses, api.Clause{-2})
	add(t, s, api.Clause{-2})
	wantUnsat(t, "Solve", solve(t, s, p))
	wantSteps(t, p, s.Steps(), nil)
}

func TestExample2(t *testing.T) {
	p := &problem{atoms: 1}
	s := newSolver(t, 1, nil)
	wantUnsat(t, "Solve(1, -1)", solve(t, s, p, 1, -1), 1, -1)
	wantSteps(t, p, s.Steps(), nil)
}

func TestExample3(t *testing.T) {
	p := &problem{atoms: 2, clauses: []api.Clause{{1}, {2}}}
	for _, v := range all(2) {
		if !v[1] || !v[2] {
			p.stands = append(p.stands, v)
		}
	}
	th := newFixed(2, p.stands, manner{}, 1)
	s := newSolver(t, 2, th, p.clauses...)
	wantUnsat(t, "Solve", solve(t, s, p))
	steps := s.Steps()
	wantSteps(t, p, steps, th.said)
	if !slices.ContainsFunc(steps, func(x api.Step) bool {
		return x.Kind == api.StepFarkas && slices.Equal(sorted(x.Clause), lits(-2, -1))
	}) {
		t.Errorf("the steps %v", steps)
	}
}
