package search_test

import (
	"math/rand"
	"slices"
	"testing"

	"fulcrum/api"
)

// F2: what Solve answers.

func TestF2WithoutClauses(t *testing.T) {
	for _, atoms := range []int{0, 1, 2, 9, 1000} {
		p := &problem{atoms: atoms}
		s := newSolver(t, atoms, nil)
		wantSat(t, "no clauses", solve(t, s, p))
		if atoms == 0 {
			continue
		}
		wantSat(t, "an assumption", solve(t, s, p, atoms))
		wantSat(t, "its opposite", solve(t, s, p, -atoms))
		wantSat(t, "twice", solve(t, s, p, -atoms, -atoms, -1, -atoms))
		wantUnsat(t, "and its opposite", solve(t, s, p, atoms, atoms, -atoms, atoms), atoms, -atoms)
		wantUnsat(t, "and its opposite", solve(t, s, p, -atoms, -atoms, atoms, -atoms), -atoms, atoms)
		wantSteps(t, p, s.Steps(), nil)
	}
}

func TestF2NoLiterals(t *testing.T) {
	for _, atoms := range []int{0, 1, 5} {
		w := &witness{atoms: atoms}
		s := newSolver(t, atoms, w, api.Clause{})
		for _, lit := range noLits(atoms) {
			for _, assume := range [][]int{{lit}, {lit, lit}, append(ones(atoms), lit), append([]int{lit}, ones(atoms)...)} {
				f, e := s.Solve(assume)
				wantErr(t, "Solve of what is no literal", e, api.ErrArg)
				wantNothing(t, f)
			}
		}
		wantInt(t, "how often the theory is called then", w.calls, 0)
		wantInt(t, "how many steps there are then", len(s.Steps()), 1)
	}
}

func ones(atoms int) []int {
	var out []int
	for n := range atoms {
		out = append(out, n+1)
	}
	return out
}

func TestF2Core(t *testing.T) {
	p := &problem{atoms: 9, clauses: []api.Clause{{-1, -2, 3}, {-3, -4, 5}, {-6, 7}, {-7, -5}, {8}}}
	s := newSolver(t, p.atoms, nil, p.clauses...)
	for _, x := range []struct{ assume, core []int }{
		{lits(1, 2, 4, 6), lits(1, 2, 4, 6)},
		{lits(6, 4, 2, 1), lits(6, 4, 2, 1)},
		{lits(9, 6, 9, 4, -9, 2, 1, 2), nil}, // one of two Cores
		{lits(9, 6, 9, 4, 2, 1, 2, 4), lits(6, 4, 2, 1)},
		{lits(1, -8), lits(-8)},
		{lits(8, 1, 2, -3), lits(1, 2, -3)},
		{lits(3, 4, 1, 2, 6), lits(3, 4, 6)},
		{lits(5, 5, 7), lits(5, 7)},
		{lits(-8, -8, 8), nil},
	} {
		f := wantRight(t, s, p, x.assume...)
		if f.Kind != api.SearchUnsat || x.core != nil && !slices.Equal(f.Core, x.core) {
			t.Errorf("%v: %+v, not %v", x.assume, f, x.core)
		}
	}
	// What follows from others is no matter.
	for _, assume := range [][]int{{1, 2, 3}, {8, 8}, {6, 7, -5}, {1, 2, 3, 4, 5, -6, 8, 9}} {
		wantSat(t, "all follows", wantRight(t, s, p, assume...))
	}
	wantSteps(t, p, s.Steps(), nil)
}

func TestF2ClashOnLevel0(t *testing.T) {
	p := &problem{atoms: 4, clauses: []api.Clause{{1}, {-1, 2}, {-2, -3}}}
	s := newSolver(t, p.atoms, nil, p.clauses...)
	wantUnsat(t, "3", wantRight(t, s, p, 4, 3, 1), 3)
	wantUnsat(t, "-2", wantRight(t, s, p, -4, -2, 3), -2)
	wantSat(t, "4", wantRight(t, s, p, 4, -3, 2, 1))
	p.clauses = append(p.clauses, api.Clause{3, -1})
	add(t, s, api.Clause{3, -1})
	for _, assume := range [][]int{nil, {}, {4}, {3}, {-3, 4}, {1, -1}} {
		wantUnsat(t, "for good", wantRight(t, s, p, assume...))
	}
	wantSteps(t, p, s.Steps(), nil)
}

// Each assumption that is needed may need many conflicts.
func TestF2ManyConflicts(t *testing.T) {
	kinds := map[int]int{}
	for seed := range 30 {
		r := rand.New(rand.NewSource(int64(seed)))
		atoms := 40 + seed
		p := &problem{atoms: atoms, clauses: threes(r, atoms, atoms*38/10)}
		s := newSolver(t, atoms, nil, p.clauses...)
		for range 10 {
			f := solve(t, s, p, someLits(r, atoms, 14)...)
			kinds[f.Kind]++
			if f.Kind == api.SearchUnsat {
				wantInt(t, "the Core alone", solve(t, s, p, f.Core...).Kind, api.SearchUnsat)
			}
		}
		wantSteps(t, p, s.Steps(), nil)
	}
	wantMany(t, kinds, 50)
}

// All atoms are assumed, each way that there is.
func TestF2AllIsAssumed(t *testing.T) {
	r := rand.New(rand.NewSource(22))
	for i := range 60 {
		p := someProblem(r, 4)
		p.stands = someStand(r, 4, 70)
		th := newFixed(4, p.stands, manners()["now and then"], int64(i))
		s := newSolver(t, 4, th, p.clauses...)
		for _, v := range all(4) {
			var assume []int
			for _, i := range r.Perm(4) {
				lit := i + 1
				if !v[lit] {
					lit = -lit
				}
				assume = append(assume, lit)
			}
			wantRight(t, s, p, assume...)
		}
		wantSteps(t, p, s.Steps(), th.said)
		wantWellCalled(t, s, p, &th.witness)
	}
}

func TestF2ManyAssumptions(t *testing.T) {
	const atoms = 20000
	p := &problem{atoms: atoms, clauses: []api.Clause{{-5, -atoms}}}
	w := &witness{atoms: atoms}
	s := newSolver(t, atoms, w, p.clauses...)
	assume := append(ones(atoms-1), ones(atoms-1)...)
	wantSat(t, "all but the last one", solve(t, s, p, assume...))
	wantUnsat(t, "all", solve(t, s, p, append(assume, atoms)...), 5, atoms)
	wantWellCalled(t, s, p, w)
}
