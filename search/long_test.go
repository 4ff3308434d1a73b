package search_test

import (
	"fmt"
	"math/rand"
	"slices"
	"testing"

	"fulcrum/api"
)

// F4 where a search is long: the answers are held by Models and by steps, as there are too many values.

// holes says that so many things, and one more, have a hole each of their own.
func holes(n int) (int, []api.Clause) {
	at := func(thing, hole int) int { return thing*n + hole + 1 }
	var l []api.Clause
	for i := range n + 1 {
		var c api.Clause
		for h := range n {
			c = append(c, at(i, h))
			for k := range i {
				l = append(l, api.Clause{-at(i, h), -at(k, h)})
			}
		}
		l = append(l, c)
	}
	return (n + 1) * n, l
}

func TestF4Holes(t *testing.T) {
	for n := range 7 {
		atoms, l := holes(n)
		p := &problem{atoms: atoms, clauses: l}
		s := newSolver(t, atoms, nil, l...)
		wantUnsat(t, fmt.Sprint(n, " holes"), solve(t, s, p))
		wantSteps(t, p, s.Steps(), nil)
		if n == 0 {
			continue
		}
		// Without the last thing they fit, and with one thing that needs no hole.
		p.clauses = slices.Clone(l[:len(l)-1])
		s = newSolver(t, atoms, nil, p.clauses...)
		wantSat(t, fmt.Sprint(n, " holes and things"), solve(t, s, p))
	}
}

// Where holes stand behind a literal each, these are the Core.
func TestF4HolesByAssumptions(t *testing.T) {
	atoms, l := holes(5)
	p := &problem{atoms: atoms + 8}
	s := newSolver(t, p.atoms, nil)
	for _, c := range l {
		if len(c) > 2 {
			c = append(c, -atoms-1-len(p.clauses)%6)
		}
		p.clauses = append(p.clauses, c)
		add(t, s, c)
	}
	var assume []int
	for n := range 8 {
		assume = append(assume, atoms+1+n)
	}
	f := solve(t, s, p, assume...)
	if f.Kind != api.SearchUnsat || slices.Contains(f.Core, atoms+7) || slices.Contains(f.Core, atoms+8) {
		t.Fatal("the Core of holes:", f)
	}
	wantSat(t, "with the last one false", solve(t, s, p, -f.Core[len(f.Core)-1]))
	wantUnsat(t, "with the Core alone", solve(t, s, p, f.Core...), f.Core...)
	wantSteps(t, p, s.Steps(), nil)
}

// chain says that each atom is the next one's reason.
func chain(atoms int) []api.Clause {
	var l []api.Clause
	for n := 1; n < atoms; n++ {
		l = append(l, api.Clause{-n, n + 1})
	}
	return l
}

func TestF4Chains(t *testing.T) {
	const atoms = 30000
	p := &problem{atoms: atoms, clauses: chain(atoms)}
	w := &witness{atoms: atoms}
	s := newSolver(t, atoms, w, p.clauses...)
	wantSat(t, "from the end", solve(t, s, p, -atoms))
	wantSat(t, "from the beginning", solve(t, s, p, 1))
	wantUnsat(t, "from both", solve(t, s, p, 7, 1, -atoms, 9), 7, -atoms)
	add(t, s, api.Clause{1})
	p.clauses = append(p.clauses, api.Clause{1})
	wantUnsat(t, "from the end", solve(t, s, p, 5, -atoms+1), -atoms+1)
	add(t, s, api.Clause{-atoms, -1})
	p.clauses = append(p.clauses, api.Clause{-atoms, -1})
	wantUnsat(t, "in a ring", solve(t, s, p, 5))
	wantWellCalled(t, s, p, w)
	wantSteps(t, p, s.Steps(), nil)
}

// xors says that sums of atoms are even or odd, of three each; the sum of all is a contradiction, if odd is.
func xors(n int, odd bool) []api.Clause {
	var l []api.Clause
	for i := range n {
		a, b, c := i+1, (i+1)%n+1, n+i+1
		l = append(l, api.Clause{-a, -b, -c}, api.Clause{-a, b, c}, api.Clause{a, -b, c}, api.Clause{a, b, -c})
		if i > 0 {
			l = append(l, api.Clause{-c, 2*n + i}, api.Clause{c, -2*n - i})
		}
	}
	if odd {
		for i := 1; i < n; i++ {
			l = append(l, api.Clause{-2*n - i})
		}
		l = append(l, api.Clause{n + 1})
	}
	return l
}

func TestF4Xors(t *testing.T) {
	for _, n := range []int{3, 4, 10, 60} {
		p := &problem{atoms: 3*n - 1, clauses: xors(n, false)}
		s := newSolver(t, p.atoms, nil, p.clauses...)
		wantSat(t, "even", solve(t, s, p))
		p.clauses = xors(n, true)
		s = newSolver(t, p.atoms, nil, p.clauses...)
		wantUnsat(t, "odd", solve(t, s, p))
		wantSteps(t, p, s.Steps(), nil)
	}
}

func threes(r *rand.Rand, atoms, count int) []api.Clause {
	var l []api.Clause
	for range count {
		c := api.Clause{}
		for _, v := range r.Perm(atoms)[:3] {
			c = append(c, (v+1)*(1-2*r.Intn(2)))
		}
		l = append(l, c)
	}
	return l
}

// Of random clauses with 4.26 times as many as atoms about half can be true together, and these are the hardest.
func TestF4NearTheTurn(t *testing.T) {
	kinds := map[int]int{}
	for seed := range 24 {
		r := rand.New(rand.NewSource(int64(seed)))
		atoms := 60 + 4*seed
		p := &problem{atoms: atoms, clauses: threes(r, atoms, atoms*426/100)}
		s := newSolver(t, atoms, nil, p.clauses...)
		assume := someLits(r, atoms, 3)
		f := solve(t, s, p, assume...)
		wantInt(t, "asked again", solve(t, s, p, assume...).Kind, f.Kind)
		wantSteps(t, p, s.Steps(), nil)
		kinds[f.Kind]++
	}
	wantMany(t, kinds, 4)
}

// So many conflicts that what was learnt is let go, more than once; and so with a theory's clauses.
func TestF4MuchIsLearnt(t *testing.T) {
	r := rand.New(rand.NewSource(3))
	p := &problem{atoms: 180, clauses: threes(r, 180, 180*426/100)}
	s := newSolver(t, p.atoms, nil, p.clauses...)
	f := solve(t, s, p)
	steps := s.Steps()
	if len(steps) < len(p.clauses)+4000 {
		t.Fatal("too few conflicts:", len(steps)-len(p.clauses))
	}
	wantSteps(t, p, steps, nil)
	for range 3 {
		wantInt(t, "asked again", solve(t, s, p).Kind, f.Kind)
	}
}

// books is a theory of clauses: it says those that are false, or that force a literal, of what was asserted.
type books struct {
	witness
	l    []api.Clause
	said []api.Clause
	soon bool // else by Final alone
}

// open is how many literals of a clause are open; of one that is true it is 2.
func (b *books) open(c api.Clause) int {
	open := 0
	for _, x := range c {
		switch {
		case b.isIn[x]:
			return 2
		case !b.isIn[-x]:
			open++
		}
	}
	return open
}

func (b *books) say() api.Said {
	var said api.Said
	for _, c := range b.l {
		switch open := b.open(c); {
		case open == 0:
			b.said = append(b.said, c)
			return api.Said{Clash: slices.Clone(c)}
		case open == 1:
			b.said = append(b.said, c)
			said.Implied = append(said.Implied, slices.Clone(c))
		}
	}
	return said
}

func (b *books) Assert(lit int) api.Said {
	b.witness.Assert(lit)
	if !b.soon {
		return api.Said{}
	}
	return b.say()
}

func (b *books) Final() api.Said {
	b.witness.Final()
	return b.say()
}

// A part of a hard problem is the theory's: the answer is that of the whole.
func TestF4TheoryOfClauses(t *testing.T) {
	for seed := range 12 {
		r := rand.New(rand.NewSource(int64(seed)))
		atoms := 30 + seed
		l := threes(r, atoms, atoms*43/10)
		whole := &problem{atoms: atoms, clauses: l}
		want := solve(t, newSolver(t, atoms, nil, l...), whole).Kind
		b := &books{witness: witness{atoms: atoms}, l: l[:len(l)/2], soon: seed%3 > 0}
		p := &problem{atoms: atoms, clauses: l[len(l)/2:]}
		s := newSolver(t, atoms, b, p.clauses...)
		f := solve(t, s, p)
		wantInt(t, "the Kind", f.Kind, want)
		if f.Kind == api.SearchSat && !truths(f.Model).clauses(l) {
			t.Fatal("the Model does not stand")
		}
		wantSteps(t, p, s.Steps(), b.said)
		wantWellCalled(t, s, p, &b.witness)
	}
}

func TestF4HolesOfATheory(t *testing.T) {
	for _, soon := range []bool{true, false} {
		atoms, l := holes(4)
		b := &books{witness: witness{atoms: atoms}, l: l, soon: soon}
		p := &problem{atoms: atoms}
		s := newSolver(t, atoms, b)
		wantUnsat(t, "holes", solve(t, s, p))
		wantSteps(t, p, s.Steps(), b.said)
		wantWellCalled(t, s, p, &b.witness)
	}
}
