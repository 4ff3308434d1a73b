package search_test

import (
	"math/rand"
	"slices"
	"testing"

	"fulcrum/api"
)

// The section 'The theory': when a solver calls its theory.

// wantPaths: over many problems nothing wrong is seen (by witness), and behind each search what is asserted still follows.
func TestTheoryIsCalledWell(t *testing.T) {
	r := rand.New(rand.NewSource(7))
	for range 600 {
		p := someProblem(r, 1+r.Intn(8))
		w := &witness{atoms: p.atoms}
		s := newSolver(t, p.atoms, w, p.clauses...)
		for range 4 {
			wantRight(t, s, p, someLits(r, p.atoms, 5)...)
			wantWellCalled(t, s, p, w)
			c := someClause(r, p.atoms)
			p.clauses = append(p.clauses, c)
			add(t, s, c)
		}
	}
}

// Where a search ends with values, Final was asked about just these.
func TestTheoryIsAskedAboutTheModel(t *testing.T) {
	r := rand.New(rand.NewSource(71))
	for range 300 {
		p := someProblem(r, 5)
		a := &asked{witness: witness{atoms: 5}}
		s := newSolver(t, 5, a, p.clauses...)
		f := wantRight(t, s, p, someLits(r, 5, 2)...)
		if f.Kind == api.SearchUnsat {
			continue
		}
		var want []int
		for atom := 1; atom <= 5; atom++ {
			if f.Model[atom] {
				want = append(want, atom)
			} else {
				want = append(want, -atom)
			}
		}
		if !slices.Equal(sorted(a.about), sorted(want)) {
			t.Fatalf("Final was asked about %v, the Model is %v", a.about, f.Model)
		}
	}
}

// asked notes what Final was asked about last.
type asked struct {
	witness
	about []int
}

func (a *asked) Final() api.Said {
	a.about = slices.Clone(a.told)
	return a.witness.Final()
}

// What is true on level 0 is asserted once, over all searches.
func TestLevel0IsAssertedOnce(t *testing.T) {
	p := &problem{atoms: 5, clauses: []api.Clause{{1}, {-1, 2}}}
	c := &counter{witness: witness{atoms: 5}, times: map[int]int{}}
	s := newSolver(t, 5, c, p.clauses...)
	for range 4 {
		wantSat(t, "3", solve(t, s, p, 3))
		wantUnsat(t, "-2", solve(t, s, p, -2), -2)
		wantWellCalled(t, s, p, &c.witness)
	}
	wantInt(t, "how often 1 was asserted", c.times[1], 1)
	wantInt(t, "how often 2 was asserted", c.times[2], 1)
	add(t, s, api.Clause{4, -2})
	p.clauses = append(p.clauses, api.Clause{4, -2})
	for range 3 {
		wantSat(t, "5", solve(t, s, p, 5))
		wantWellCalled(t, s, p, &c.witness)
	}
	wantInt(t, "how often 2 was asserted", c.times[2], 1)
	if !slices.Equal(sorted(c.told), lits(1, 2, 4)) {
		t.Errorf("asserted still are %v", c.told)
	}
}

type counter struct {
	witness
	times map[int]int
}

func (c *counter) Assert(lit int) api.Said {
	c.times[lit]++
	return c.witness.Assert(lit)
}

// Literals are asserted on the level on which they are true: one that a decision forces goes with it.
func TestLevelsAreThoseOfDecisions(t *testing.T) {
	p := &problem{atoms: 4, clauses: []api.Clause{{-1, 2}, {-3, 4}}}
	l := &levels{witness: witness{atoms: 4}, at: map[int]int{}}
	s := newSolver(t, 4, l, p.clauses...)
	wantSat(t, "1 and 3", solve(t, s, p, 1, 3))
	for lit, level := range map[int]int{1: 1, 2: 1, 3: 2, 4: 2} {
		wantInt(t, "the level of an assumption, and of what it forces", l.at[lit], level)
	}
}

// levels notes on which level each literal was asserted.
type levels struct {
	witness
	at map[int]int
}

func (l *levels) Assert(lit int) api.Said {
	l.at[lit] = len(l.begun)
	return l.witness.Assert(lit)
}

// A literal that the theory says must be true need not be decided: the answer comes without any search.
func TestWhatIsImpliedIsUsed(t *testing.T) {
	const atoms = 40
	b := &books{witness: witness{atoms: atoms}, l: chain(atoms), soon: true}
	p := &problem{atoms: atoms, clauses: []api.Clause{{1}}}
	s := newSolver(t, atoms, b, p.clauses...)
	wantUnsat(t, "the end", solve(t, s, p, -atoms), -atoms)
	wantInt(t, "how often Final was asked", b.final, 0)
	if !slices.Equal(sorted(b.told), ones(atoms)) {
		t.Errorf("asserted still are %v", b.told)
	}
	wantSteps(t, p, s.Steps(), b.said)
}

// Many atoms: how long the calls take hangs on how many there are, not on that times that.
func TestTheoryOfManyAtoms(t *testing.T) {
	const atoms = 1 << 16
	p := &problem{atoms: atoms}
	w := &witness{atoms: atoms}
	s := newSolver(t, atoms, w)
	for range 3 {
		wantSat(t, "many atoms", solve(t, s, p, 1, -atoms))
		wantWellCalled(t, s, p, w)
	}
	// With a conflict now and then.
	for n := 1; n <= 10; n++ {
		at := n * 6000
		l := []api.Clause{{at, at + 1}, {at, -at - 1}, {-at, at + 2, at + 3}, {-at, at + 2, -at - 3}}
		p.clauses = append(p.clauses, l...)
		add(t, s, l...)
	}
	wantSat(t, "with conflicts", solve(t, s, p))
	wantUnsat(t, "with conflicts", solve(t, s, p, -6000), -6000)
	wantWellCalled(t, s, p, w)
	wantSteps(t, p, s.Steps(), nil)
}

// An empty Clash is none, be it nil or not.
func TestEmptyClash(t *testing.T) {
	p := &problem{atoms: 3, clauses: []api.Clause{{1, 2}}}
	h := &honest{said: api.Said{Clash: api.Clause{}, Implied: []api.Clause{}}}
	s := newSolver(t, 3, h, p.clauses...)
	wantSat(t, "empty lists", solve(t, s, p, -1))
	wantSteps(t, p, s.Steps(), nil)
}

// honest says the same, always.
type honest struct{ said api.Said }

func (h *honest) Assert(int) api.Said { return h.said }
func (h *honest) Push()               {}
func (h *honest) Back(int)            {}
func (h *honest) Final() api.Said     { return h.said }

// A clause of Implied of which all literals are false is a Clash like others.
func TestImpliedThatIsFalseIsAClash(t *testing.T) {
	l := &liar{witness: witness{atoms: 2}}
	l.assert = func(int) api.Said {
		if len(l.told) < 2 {
			return api.Said{}
		}
		return implied(api.Clause{-1, -2})
	}
	p := &problem{atoms: 2, clauses: []api.Clause{{1}, {2}}}
	s := newSolver(t, 2, l, p.clauses...)
	wantUnsat(t, "1 and 2", solve(t, s, p))
	wantInt(t, "how often Final was asked", l.witness.final, 0)
	wantSteps(t, p, s.Steps(), []api.Clause{{-1, -2}})
}

// Atoms that came behind New, and behind searches, are the theory's like others.
func TestTheoryOfAtomsThatGrew(t *testing.T) {
	r := rand.New(rand.NewSource(76))
	for seed := range 200 {
		p := &problem{stands: []truths{{false}}}
		th := newFixed(0, p.stands, manners()["now and then"], int64(seed))
		s := newSolver(t, 0, th)
		for p.atoms < 6 {
			p.atoms++
			grow(t, s, p.atoms)
			th.atoms, p.stands = p.atoms, longer(r, p.stands)
			th.stands = p.stands
			c := someClause(r, p.atoms)
			p.clauses = append(p.clauses, c)
			add(t, s, c)
			wantRight(t, s, p, someLits(r, p.atoms, 3)...)
			wantWellCalled(t, s, p, &th.witness)
		}
		wantSteps(t, p, s.Steps(), th.said)
	}
}

// longer is values with one truth more: what holds of those ahead holds of them.
func longer(r *rand.Rand, stands []truths) []truths {
	out := []truths{}
	for _, v := range stands {
		for _, truth := range []bool{false, true} {
			if r.Intn(5) > 0 {
				out = append(out, append(slices.Clone(v), truth))
			}
		}
	}
	return out
}
