package search_test

import (
	"fmt"
	"math/rand"
	"slices"
	"testing"

	"fulcrum/api"
	"fulcrum/search"
)

// F4 and F5: over many clauses, assumptions and theories the answer is the one that all values tell, and is certified.

// someProblem draws a problem about so many atoms, near where about half of them can be.
func someProblem(r *rand.Rand, atoms int) *problem {
	p := &problem{atoms: atoms}
	for range r.Intn(4*atoms + 1) {
		p.clauses = append(p.clauses, someClause(r, atoms))
	}
	return p
}

// wantRight: solve, with the Kind that all values tell.
func wantRight(t *testing.T, s *search.Solver, p *problem, assume ...int) api.Found {
	t.Helper()
	f := solve(t, s, p, assume...)
	if is := f.Kind == api.SearchSat; is != p.possible(assume) {
		t.Fatalf("%v with %v, %d values stand: the Kind %d", p.clauses, assume, len(p.stands), f.Kind)
	}
	if f.Kind == api.SearchUnsat && p.possible(f.Core) {
		t.Fatalf("%v with %v: the Core %v is not enough", p.clauses, assume, f.Core)
	}
	return f
}

func TestF4WithoutTheory(t *testing.T) {
	r := rand.New(rand.NewSource(4))
	kinds := map[int]int{}
	for range 3000 {
		p := someProblem(r, 1+r.Intn(8))
		s := newSolver(t, p.atoms, nil, p.clauses...)
		f := wantRight(t, s, p, someLits(r, p.atoms, 4)...)
		wantSteps(t, p, s.Steps(), nil)
		kinds[f.Kind]++
	}
	wantMany(t, kinds, 500)
}

// wantMany: both answers came, and often.
func wantMany(t *testing.T, kinds map[int]int, least int) {
	t.Helper()
	if kinds[api.SearchSat] < least || kinds[api.SearchUnsat] < least {
		t.Fatalf("too few of a kind: %v", kinds)
	}
}

func TestF4WithTheories(t *testing.T) {
	for name, how := range manners() {
		t.Run(name, func(t *testing.T) {
			r := rand.New(rand.NewSource(41))
			kinds := map[int]int{}
			for i := range 400 {
				p := someProblem(r, 1+r.Intn(6))
				p.stands = someStand(r, p.atoms, []int{0, 5, 20, 60, 95}[r.Intn(5)])
				th := newFixed(p.atoms, p.stands, how, int64(i))
				s := newSolver(t, p.atoms, th, p.clauses...)
				f := wantRight(t, s, p, someLits(r, p.atoms, 3)...)
				wantSteps(t, p, s.Steps(), th.said)
				wantWellCalled(t, s, p, &th.witness)
				kinds[f.Kind]++
			}
			wantMany(t, kinds, 50)
		})
	}
}

// wantWellCalled: nothing wrong was seen; behind a search no level is begun and not left, and what is asserted still is so in all values.
func wantWellCalled(t *testing.T, s *search.Solver, p *problem, w *witness) {
	t.Helper()
	if len(w.wrong) > 0 {
		t.Fatalf("the theory was called wrongly: %v", w.wrong)
	}
	if len(w.begun) > 0 {
		t.Fatalf("%d levels are begun and not left", len(w.begun))
	}
	for _, lit := range w.told {
		if p.atoms < 10 && p.possible(lits(-lit)) {
			t.Fatalf("%d is asserted still, and its opposite can be", lit)
		}
	}
}

// One solver is asked again and again, while clauses and atoms come in.
func TestF4AskedAgain(t *testing.T) {
	for name, how := range manners() {
		t.Run(name, func(t *testing.T) {
			r := rand.New(rand.NewSource(42))
			for i := range 60 {
				p := &problem{atoms: 6}
				p.stands = someStand(r, p.atoms, 50)
				th := newFixed(p.atoms, p.stands, how, int64(i))
				s := newSolver(t, p.atoms, th)
				wantAskedAgain(t, r, s, p)
				wantSteps(t, p, s.Steps(), th.said)
				wantWellCalled(t, s, p, &th.witness)
			}
		})
	}
	r := rand.New(rand.NewSource(43))
	for range 300 {
		p := &problem{atoms: 7}
		s := newSolver(t, p.atoms, nil)
		wantAskedAgain(t, r, s, p)
		wantSteps(t, p, s.Steps(), nil)
	}
}

func wantAskedAgain(t *testing.T, r *rand.Rand, s *search.Solver, p *problem) {
	t.Helper()
	for range 12 {
		for range r.Intn(4) {
			c := someClause(r, p.atoms)
			p.clauses = append(p.clauses, c)
			add(t, s, c)
		}
		assume := someLits(r, p.atoms, 4)
		f := wantRight(t, s, p, assume...)
		wantInt(t, "the Kind, asked again", wantRight(t, s, p, assume...).Kind, f.Kind)
		if f.Kind == api.SearchUnsat {
			wantInt(t, "the Kind with the Core alone", wantRight(t, s, p, f.Core...).Kind, api.SearchUnsat)
			more := append(slices.Clone(assume), someLits(r, p.atoms, 3)...)
			wantInt(t, "the Kind with more assumptions", wantRight(t, s, p, more...).Kind, api.SearchUnsat)
		}
	}
}

func TestF4AtomsComeIn(t *testing.T) {
	r := rand.New(rand.NewSource(44))
	for range 200 {
		p := &problem{}
		w := &witness{}
		s := newSolver(t, 0, w)
		for range 8 {
			p.atoms++
			w.atoms++
			grow(t, s, p.atoms)
			for range r.Intn(5) {
				c := someClause(r, p.atoms)
				p.clauses = append(p.clauses, c)
				add(t, s, c)
			}
			wantRight(t, s, p, someLits(r, p.atoms, 3)...)
			wantWellCalled(t, s, p, w)
		}
		wantSteps(t, p, s.Steps(), nil)
	}
}

// F5: what the last step says follows from the inputs and what the theory says.
func TestF5LastStep(t *testing.T) {
	r := rand.New(rand.NewSource(5))
	for i := range 300 {
		p := someProblem(r, 5)
		p.stands = someStand(r, p.atoms, 30)
		th := newFixed(p.atoms, p.stands, manners()["now and then"], int64(i))
		s := newSolver(t, p.atoms, th, p.clauses...)
		if f := solve(t, s, p, someLits(r, p.atoms, 3)...); f.Kind == api.SearchUnsat {
			steps := s.Steps()
			last := steps[len(steps)-1].Clause
			for _, v := range p.stands {
				if v.clauses(p.clauses) && !v.clause(last) {
					t.Fatal(fmt.Sprint(v, " make all true, but not ", last))
				}
			}
		}
	}
}
