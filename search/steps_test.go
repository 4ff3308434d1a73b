package search_test

import (
	"math/rand"
	"slices"
	"testing"

	"fulcrum/api"
)

// F3: what was done, as steps. (All tests hold steps by wantSteps too.)

// Inputs stand as they were added, before, between and behind searches; those behind the refutation too.
func TestF3Inputs(t *testing.T) {
	p := &problem{atoms: 3}
	s := newSolver(t, 3, nil)
	wantSteps(t, p, s.Steps(), nil)
	for _, c := range []api.Clause{{3, -1, 3}, {2, -2}, {1}, {-3, 2}, {-2}, {}, {-3, 2}, {1, 1}} {
		add(t, s, c)
		p.clauses = append(p.clauses, c)
		last := s.Steps()[len(s.Steps())-1]
		if last.Kind != api.StepInput || !slices.Equal(last.Clause, c) {
			t.Fatalf("behind Add of %v: %v", c, last)
		}
		wantRight(t, s, p)
		wantRight(t, s, p, 1, 3)
		wantRight(t, s, p, -1)
		wantSteps(t, p, s.Steps(), nil)
	}
}

// The last step is that of the Core behind each search that finds none, whatever stood last ahead of it.
func TestF3LastStep(t *testing.T) {
	p := &problem{atoms: 3, clauses: []api.Clause{{1, 2}, {1, -2}, {3}}}
	s := newSolver(t, 3, nil, p.clauses...)
	for range 3 {
		wantUnsat(t, "-1", solve(t, s, p, -1), -1)
		wantUnsat(t, "-3", solve(t, s, p, 1, -3), -3)
		wantUnsat(t, "2, -2", solve(t, s, p, 2, -2), 2, -2)
		wantSat(t, "1", solve(t, s, p, 1))
	}
	add(t, s, api.Clause{-1})
	p.clauses = append(p.clauses, api.Clause{-1})
	for range 3 {
		wantUnsat(t, "nothing", solve(t, s, p, 2))
		add(t, s, api.Clause{2})
		p.clauses = append(p.clauses, api.Clause{2})
	}
	wantSteps(t, p, s.Steps(), nil)
}

// Asking again what is known puts no more than the answer's step behind the others.
func TestF3NoStepsWithoutNews(t *testing.T) {
	p := &problem{atoms: 20, clauses: chain(20)}
	s := newSolver(t, 20, nil, p.clauses...)
	solve(t, s, p, 1, -20)
	ahead := len(s.Steps())
	solve(t, s, p, 1)
	wantInt(t, "steps behind a Model", len(s.Steps()), ahead)
	solve(t, s, p, 1, -20)
	if n := len(s.Steps()); n > ahead+1 {
		t.Errorf("%d steps more", n-ahead)
	}
}

// What is of level 0 leads to the last step by steps of one literal each, however many chains go through it.
func TestF3StepsAreShort(t *testing.T) {
	const atoms = 2000
	p := &problem{atoms: atoms + 3, clauses: append(chain(atoms), api.Clause{1},
		api.Clause{-atoms, atoms + 1, atoms + 2, atoms + 3}, api.Clause{-atoms, -atoms - 1, atoms + 2, atoms + 3},
		api.Clause{-atoms, atoms + 1, -atoms - 2, atoms + 3}, api.Clause{-atoms, -atoms - 1, -atoms - 2, atoms + 3},
		api.Clause{-atoms, atoms + 1, atoms + 2, -atoms - 3}, api.Clause{-atoms, -atoms - 1, atoms + 2, -atoms - 3},
		api.Clause{-atoms, atoms + 1, -atoms - 2, -atoms - 3}, api.Clause{-atoms, -atoms - 1, -atoms - 2, -atoms - 3})}
	s := newSolver(t, p.atoms, nil, p.clauses...)
	wantUnsat(t, "Solve", solve(t, s, p))
	steps := s.Steps()
	wantSteps(t, p, steps, nil)
	for _, step := range steps {
		if len(step.By) > 20 {
			t.Fatalf("a step by %d others", len(step.By))
		}
	}
}

// Clauses that the theory said twice, or that say nothing new, do no harm, and are not all recorded.
func TestF3Theory(t *testing.T) {
	r := rand.New(rand.NewSource(33))
	for i := range 100 {
		p := someProblem(r, 5)
		p.stands = someStand(r, 5, 40)
		th := newFixed(5, p.stands, manners()["by much of no news"], int64(i))
		s := newSolver(t, 5, th, p.clauses...)
		for range 5 {
			wantRight(t, s, p, someLits(r, 5, 3)...)
		}
		steps := s.Steps()
		wantSteps(t, p, steps, th.said)
		wantWellCalled(t, s, p, &th.witness)
		known := map[string]int{}
		for _, step := range steps {
			if step.Kind == api.StepFarkas {
				known[key(step.Clause)]++
				wantInt(t, "how often a clause of the theory is recorded", known[key(step.Clause)], 1)
			}
		}
	}
}

// key tells clauses with the same literals by the same text.
func key(c api.Clause) string {
	out := ""
	for _, lit := range slices.Compact(sorted(c)) {
		out += string(rune(1000 + lit))
	}
	return out
}
