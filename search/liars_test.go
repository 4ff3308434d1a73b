package search_test

import (
	"fmt"
	"math"
	"math/rand"
	"slices"
	"testing"

	"fulcrum/api"
	"fulcrum/search"
)

// Theories that are not honest: each call ends all the same, with ErrSolver or with an answer, and so do those behind it.

// liar says what its functions say.
type liar struct {
	witness
	assert func(lit int) api.Said
	final  func() api.Said
	push   func()
	back   func()
}

func (l *liar) Assert(lit int) api.Said {
	l.witness.Assert(lit)
	if l.assert == nil {
		return api.Said{}
	}
	return l.assert(lit)
}

func (l *liar) Final() api.Said {
	l.witness.Final()
	if l.final == nil {
		return api.Said{}
	}
	return l.final()
}

func (l *liar) Push() {
	l.witness.Push()
	if l.push != nil {
		l.push()
	}
}

func (l *liar) Back(level int) {
	l.witness.Back(level)
	if l.back != nil {
		l.back()
	}
}

// wantEnd: Solve ends, and so do calls behind it; whatever is answered is of the right form.
func wantEnd(t *testing.T, s *search.Solver, l *liar, assume ...int) api.Errno {
	t.Helper()
	ahead := s.Steps()
	f, e := s.Solve(assume)
	steps := s.Steps()
	wantBehind(t, ahead, steps)
	switch {
	case e == api.ErrSolver:
		wantNothing(t, f)
	case e != api.OK:
		t.Fatalf("Solve with a liar: the error %d", e)
	case f.Kind == api.SearchUnsat:
		wantCore(t, assume, f, steps)
	case f.Kind != api.SearchSat || len(f.Model) != s.Atoms()+1 || f.Model[0]:
		t.Fatalf("Solve with a liar: %+v", f)
	}
	if len(l.begun) > 0 {
		t.Fatalf("%d levels are begun and not left", len(l.begun))
	}
	for i, step := range steps {
		if step.Kind == api.StepUnits && !follows(steps, i) {
			t.Fatalf("the step %d, %v, does not follow by units", i, step)
		}
	}
	return e
}

func clash(c ...int) api.Said { return api.Said{Clash: c} }

func implied(l ...api.Clause) api.Said { return api.Said{Implied: l} }

// TestLiarsThatAreFound: what may not be said is told by ErrSolver.
func TestLiarsThatAreFound(t *testing.T) {
	says := map[string]func(lit int) api.Said{
		"a Clash that is true":                    func(lit int) api.Said { return clash(lit) },
		"a Clash with what is true":               func(lit int) api.Said { return clash(-lit, lit) },
		"a Clash with what was not asserted":      func(lit int) api.Said { return clash(-lit, 6) },
		"a Clash with two that were not asserted": func(lit int) api.Said { return clash(6, -lit, -6) },
		"Implied of two that were not asserted":   func(lit int) api.Said { return implied(api.Clause{-lit, 6, 5}) },
		"Implied of one and its opposite":         func(lit int) api.Said { return implied(api.Clause{6, -6}) },
		"Implied of true and not asserted":        func(lit int) api.Said { return implied(api.Clause{lit, 6}) },
		"an empty Implied":                        func(lit int) api.Said { return implied(api.Clause{}) },
		"a nil Implied":                           func(lit int) api.Said { return implied(nil) },
		"an empty Implied behind another one":     func(lit int) api.Said { return implied(api.Clause{-lit, 6}, nil) },
		"an empty Implied beside a Clash":         func(lit int) api.Said { return api.Said{Clash: api.Clause{-lit}, Implied: []api.Clause{nil}} },
	}
	for _, none := range noLits(6) {
		says[fmt.Sprint("a Clash with ", none)] = func(lit int) api.Said { return clash(-lit, none) }
		says[fmt.Sprint("a Clash of ", none)] = func(lit int) api.Said { return clash(none) }
		says[fmt.Sprint("Implied with ", none)] = func(lit int) api.Said { return implied(api.Clause{-lit, none}) }
		says[fmt.Sprint("Implied of ", none)] = func(lit int) api.Said { return implied(api.Clause{none}) }
	}
	for name, say := range says {
		t.Run(name, func(t *testing.T) {
			for _, ahead := range []int{0, 1, 3} { // so many literals are asserted ahead
				l := &liar{witness: witness{atoms: 6}}
				l.assert = func(lit int) api.Said {
					if len(l.told) <= ahead || len(l.told) > 4 {
						return api.Said{}
					}
					return say(lit)
				}
				s := newSolver(t, 6, l, api.Clause{1, 2}, api.Clause{-1, 3})
				for range 3 {
					wantErr(t, "Solve", wantEnd(t, s, l, 1, 2, 3, 4), api.ErrSolver)
				}
				wantErr(t, "the order of the errors", solveErr(s, 7), api.ErrArg)
				l.assert = nil
				wantErr(t, "Solve with what is honest again", wantEnd(t, s, l, 1, 4), api.OK)
			}
		})
	}
}

func solveErr(s *search.Solver, assume ...int) api.Errno {
	_, e := s.Solve(assume)
	return e
}

// A Clash by what was asserted once and has been left since may not be.
func TestLiarsOfThePast(t *testing.T) {
	l := &liar{witness: witness{atoms: 3}}
	past := 0
	l.assert = func(lit int) api.Said {
		if past == 0 && lit == 3 {
			past = lit
			return clash(-3)
		}
		if past == 3 && lit != -3 {
			return clash(-lit, -3)
		}
		return api.Said{}
	}
	s := newSolver(t, 3, l)
	wantUnsatOrErr(t, s, l, 3)
	wantErr(t, "Solve", wantEnd(t, s, l, 1, 2), api.ErrSolver)
}

func wantUnsatOrErr(t *testing.T, s *search.Solver, l *liar, assume ...int) {
	t.Helper()
	if f, e := s.Solve(assume); e == api.OK && f.Kind != api.SearchUnsat {
		t.Fatalf("Solve: %+v", f)
	}
}

// What Final may not say is found likewise.
func TestLiarsInFinal(t *testing.T) {
	for _, said := range []api.Said{clash(1), clash(-1, 2), clash(0), clash(7, 1), clash(-3, math.MinInt), implied(nil), implied(api.Clause{1, 2}), implied(api.Clause{0})} {
		l := &liar{witness: witness{atoms: 3}, final: func() api.Said { return said }}
		s := newSolver(t, 3, l)
		for range 3 {
			wantErr(t, fmt.Sprint("Final says ", said), wantEnd(t, s, l, 1, 2, 3), api.ErrSolver)
		}
	}
}

// Theories that say what may be said, but not of any values that stand.
func TestLiarsThatAnswer(t *testing.T) {
	opposites := func(told []int) api.Clause {
		var c api.Clause
		for _, lit := range told {
			c = append(c, -lit)
		}
		return c
	}
	makes := map[string]func(l *liar){
		"nothing is ever true": func(l *liar) { l.assert = func(lit int) api.Said { return clash(-lit) } },
		"what was first is wrong": func(l *liar) {
			l.assert = func(lit int) api.Said { return clash(-l.told[0]) }
		},
		"all together is wrong": func(l *liar) {
			l.final = func() api.Said { return clash(opposites(l.told)...) }
		},
		"all is wrong, now and then": func(l *liar) {
			l.final = func() api.Said {
				if l.final2()%3 > 0 {
					return clash(opposites(l.told)...)
				}
				return api.Said{}
			}
		},
		"Implied by Final is wrong": func(l *liar) {
			l.final = func() api.Said { return implied(opposites(l.told)) }
		},
		"all that is next is true": func(l *liar) {
			l.assert = func(lit int) api.Said {
				if lit < 0 || lit == 6 {
					return api.Said{}
				}
				return implied(api.Clause{-lit, lit + 1})
			}
		},
		"and false too": func(l *liar) {
			l.assert = func(lit int) api.Said {
				next := min(max(lit, -lit), 5) + 1
				if next == lit || next == -lit {
					return api.Said{}
				}
				return implied(api.Clause{-lit, next}, api.Clause{-lit, -next})
			}
		},
	}
	for name, make := range makes {
		t.Run(name, func(t *testing.T) {
			r := rand.New(rand.NewSource(9))
			for range 40 {
				p := someProblem(r, 6)
				l := &liar{witness: witness{atoms: 6}}
				make(l)
				s := newSolver(t, 6, l, p.clauses...)
				for range 3 {
					wantEnd(t, s, l, someLits(r, 6, 4)...)
				}
				if len(l.wrong) > 0 {
					t.Fatal("the theory was called wrongly:", l.wrong)
				}
			}
		})
	}
}

// final2 counts the calls of Final.
func (l *liar) final2() int { return l.witness.final }

// Theories that say anything at all.
func TestLiarsAtRandom(t *testing.T) {
	r := rand.New(rand.NewSource(91))
	errs := 0
	for range 1500 {
		l := &liar{witness: witness{atoms: 5}}
		share := 1 + r.Intn(40)
		some := func() api.Clause {
			var c api.Clause
			for _, lit := range l.told {
				if r.Intn(2) == 0 {
					c = append(c, -lit)
				}
			}
			if r.Intn(8) == 0 {
				c = append(c, append(noLits(5), 1, -1, 2, -2)[r.Intn(12)])
			}
			return c
		}
		say := func() api.Said {
			var said api.Said
			if r.Intn(share) == 0 {
				said.Clash = some()
			}
			for r.Intn(share) < 2 && r.Intn(3) > 0 {
				said.Implied = append(said.Implied, append(some(), someLit(r, 5)))
			}
			return said
		}
		l.assert = func(int) api.Said { return say() }
		l.final = say
		s := newSolver(t, 5, l, someProblem(r, 5).clauses...)
		for range 4 {
			if wantEnd(t, s, l, someLits(r, 5, 3)...) != api.OK {
				errs++
			}
		}
		if len(l.wrong) > 0 {
			t.Fatal("the theory was called wrongly:", l.wrong)
		}
	}
	if errs < 100 || errs > 5500 {
		t.Errorf("%d searches of 6000 end with ErrSolver", errs)
	}
}

// A theory that panics is not honest; the solver does not.
func TestLiarsThatPanic(t *testing.T) {
	for name, spoil := range map[string]func(l *liar){
		"Assert": func(l *liar) { l.assert = func(lit int) api.Said { panic(words(lit)) } },
		"Final":  func(l *liar) { l.final = func() api.Said { panic("Final") } },
		"Push":   func(l *liar) { l.push = func() { panic("Push") } },
		"Back":   func(l *liar) { l.back = func() { panic("Back") } },
	} {
		t.Run(name, func(t *testing.T) {
			p := &problem{atoms: 4, clauses: []api.Clause{{1, 2}, {1, -2}, {-1, 3, 4}, {-1, 3, -4}}}
			l := &liar{witness: witness{atoms: 4}}
			s := newSolver(t, 4, l, p.clauses...)
			spoil(l)
			for range 2 {
				wantErr(t, "Solve", wantEnd(t, s, l, 2), api.ErrSolver)
			}
			l.assert, l.final, l.push, l.back = nil, nil, nil, nil
			wantSat(t, "Solve behind that", solve(t, s, p, 2))
		})
	}
	// A theory without an object panics at its first call.
	var none *liar
	s := newSolver(t, 2, none)
	f, e := s.Solve(nil)
	wantErr(t, "Solve with a theory of nil", e, api.ErrSolver)
	wantNothing(t, f)
}

func words(lit int) string { return fmt.Sprint("Assert of ", lit) }

// A theory that calls its solver gets answers, and an end: Solve in its own call is refused, what is added counts.
func TestTheoriesThatCallTheirSolver(t *testing.T) {
	for _, when := range []string{"Assert", "Final", "Push", "Back"} {
		t.Run(when, func(t *testing.T) {
			l := &liar{witness: witness{atoms: 12}}
			p := &problem{atoms: 6, clauses: []api.Clause{{1, 2}, {1, -2}, {-3, -4}, {-3, 4}}}
			s := newSolver(t, 6, l, p.clauses...)
			call := func() {
				_, e := s.Solve(nil)
				wantErr(t, "Solve within Solve", e, api.ErrSolver)
				wantErr(t, "the order of the errors", solveErr(s, 99), api.ErrArg)
				s.Steps()
				if p.atoms < 12 {
					p.atoms++
					grow(t, s, p.atoms)
					l := []api.Clause{{p.atoms, 5}, {-p.atoms, 1 - p.atoms}}
					p.clauses = append(p.clauses, l...)
					add(t, s, l...)
				}
			}
			l.assert = func(int) api.Said { call(); return api.Said{} }
			l.final = func() api.Said { call(); return api.Said{} }
			l.push, l.back = call, call
			switch when {
			case "Assert":
				l.final, l.push, l.back = nil, nil, nil
			case "Final":
				l.assert, l.push, l.back = nil, nil, nil
			case "Push":
				l.assert, l.final, l.back = nil, nil, nil
			case "Back":
				l.assert, l.final, l.push = nil, nil, nil
			}
			l.atoms = 6 + 6
			for p.atoms < 12 {
				f, e := s.Solve(lits(6))
				wantErr(t, "Solve", e, api.OK)
				if f.Kind != api.SearchSat || !truths(f.Model).clauses(p.clauses[:4]) {
					t.Fatalf("Solve: %+v", f)
				}
			}
			wantSat(t, "at the end", solve(t, s, p, 6))
			wantSteps(t, p, s.Steps(), nil)
		})
	}
}

// What a theory adds in Final is looked at ahead of the answer.
func TestTheoryAddsInFinal(t *testing.T) {
	l := &liar{witness: witness{atoms: 3}}
	p := &problem{atoms: 3}
	s := newSolver(t, 3, l)
	l.final = func() api.Said {
		if len(p.clauses) < 7 {
			var c api.Clause
			for _, lit := range l.told {
				c = append(c, -lit)
			}
			p.clauses = append(p.clauses, c)
			add(t, s, slices.Clone(c))
		}
		return api.Said{}
	}
	wantSat(t, "seven of eight are excluded", solve(t, s, p))
	wantInt(t, "how many were added", len(p.clauses), 7)
	wantSteps(t, p, s.Steps(), nil)
}

// An atom that a theory adds in Final has a truth, and is asserted, ahead of the answer.
func TestTheoryGrowsInFinal(t *testing.T) {
	l := &liar{witness: witness{atoms: 2}}
	p := &problem{atoms: 2, clauses: []api.Clause{{1, 2}}}
	s := newSolver(t, 2, l, p.clauses...)
	l.final = func() api.Said {
		if p.atoms < 5 {
			p.atoms++
			l.atoms = p.atoms
			grow(t, s, p.atoms)
		}
		return api.Said{}
	}
	wantSat(t, "three atoms more", solve(t, s, p, 1))
	wantInt(t, "how often Final was asked", l.witness.final, 4)
	wantWellCalled(t, s, p, &l.witness)
}
