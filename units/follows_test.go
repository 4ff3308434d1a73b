package units_test

import (
	"math/rand"
	"slices"
	"testing"

	"fulcrum/api"
	"fulcrum/units"
)

// drawn is clauses and what is true ahead of Propagate: by decisions, and by what was forced by hand.
func drawn(r *rand.Rand, atoms int) *model {
	m := &model{atoms: atoms}
	for range 1 + r.Intn(3*atoms) {
		m.add(someClause(r, atoms))
	}
	for range r.Intn(4) {
		m.decide(m.open(r))
		if n := r.Intn(len(m.clauses)); r.Intn(2) == 0 && len(m.clauses[n]) > 0 {
			m.force(m.clauses[n][0], n)
		}
	}
	return m
}

// shuffled is the same clauses in another order, with their literals in another order.
func shuffled(r *rand.Rand, l []api.Clause) []api.Clause {
	out := make([]api.Clause, len(l))
	for i, j := range r.Perm(len(l)) {
		out[j] = slices.Clone(l[i])
		r.Shuffle(len(out[j]), func(a, b int) { out[j][a], out[j][b] = out[j][b], out[j][a] })
	}
	return out
}

// One fixpoint: whichever way there is gone, and in whichever order the clauses stand and were added, be it behind the decisions.
func TestU7OneFixpoint(t *testing.T) {
	r := rand.New(rand.NewSource(7))
	whole, broken := 0, 0
	for range 6000 {
		m := drawn(r, 1+r.Intn(9))
		fix := m.clone()
		if fix.fixpoint(r) {
			whole++
		} else {
			broken++
		}
		for range 3 {
			s := newStore(t, m.atoms)
			l := shuffled(r, m.clauses)
			soon := r.Intn(len(l) + 1)
			for n, c := range l[:soon] {
				add(t, s, c, n)
			}
			for _, mark := range m.marks { // what was forced is decided here: it is as true
				decide(t, s, mark.Lit)
				if r.Intn(3) == 0 {
					break
				}
			}
			for n, c := range l[soon:] {
				add(t, s, c, soon+n)
			}
			wantFixpoint(t, r, s)
		}
		wantFixpoint(t, r, loaded(t, m.atoms, m.clauses, m.marks...))
	}
	if whole < 1000 || broken < 1000 {
		t.Fatal("so many that are not broken, and that are:", whole, broken)
	}
}

// wantFixpoint lets a store propagate, and holds it against a plain fixpoint.
func wantFixpoint(t *testing.T, r *rand.Rand, s *units.Store) {
	t.Helper()
	wantPropagate(t, r, s, &model{s.Atoms(), s.Clauses(), s.Marks()})
}

// each hands on all values of so many atoms; what it answers is whether to go on.
func each(atoms int, do func(values []bool) bool) {
	for bits := range 1 << atoms {
		values := make([]bool, atoms+1)
		for atom := 1; atom <= atoms; atom++ {
			values[atom] = bits>>(atom-1)&1 == 1
		}
		if !do(values) {
			return
		}
	}
}

func says(values []bool, lit int) bool {
	return values[max(lit, -lit)] == (lit > 0)
}

func makeTrue(values []bool, l []api.Clause, decided []int) bool {
	for _, c := range l {
		if !slices.ContainsFunc(c, func(lit int) bool { return says(values, lit) }) {
			return false
		}
	}
	return !slices.ContainsFunc(decided, func(lit int) bool { return !says(values, lit) })
}

// What is forced follows from what was decided, and what is broken can't be.
func TestU8WhatIsForcedFollows(t *testing.T) {
	r := rand.New(rand.NewSource(8))
	forced, broken := 0, 0
	for range 3000 {
		m := drawn(r, 1+r.Intn(6))
		s := loaded(t, m.atoms, m.clauses, m.marks...)
		n := wantPropagate(t, r, s, m)
		var decided []int
		for _, mark := range m.marks {
			if mark.Reason == -1 {
				decided = append(decided, mark.Lit)
			} else {
				forced++
			}
		}
		each(m.atoms, func(values []bool) bool {
			if !makeTrue(values, m.clauses, decided) {
				return true
			}
			if n != -1 {
				t.Fatalf("%v make %v and %v true, but %d is broken", values, m.clauses, decided, n)
			}
			for _, mark := range m.marks {
				if !says(values, mark.Lit) {
					t.Fatalf("%v make %v and %v true, but not %v", values, m.clauses, decided, mark)
				}
			}
			return true
		})
		if n != -1 {
			broken++
		}
	}
	if forced < 2000 || broken < 500 {
		t.Fatal("so many that are forced, and that are broken:", forced, broken)
	}
}

// Whatever was called, the marks may be: Load takes them, and tells the same.
func TestU9MarksMayBe(t *testing.T) {
	r := rand.New(rand.NewSource(9))
	for range 3000 {
		s, m := busy(t, r, 40)
		if !mayBe(m.atoms, s.Clauses(), s.Marks()) {
			t.Fatalf("%v may not be over %v", s.Marks(), s.Clauses())
		}
		again := loaded(t, s.Atoms(), s.Clauses(), s.Marks()...)
		wantLike(t, "loaded again", again, m)
		s.Propagate()
		n := again.Propagate()
		if !mayBe(m.atoms, again.Clauses(), again.Marks()) {
			t.Fatalf("%v may not be over %v", again.Marks(), again.Clauses())
		}
		if n == -1 {
			wantLits(t, "the same literals", again, trueLits(s.Marks())...)
		}
	}
}

// Behind Back the same decisions and Propagates make the same literals true, if -1 was answered; that is answered then too.
func TestU9BackAndTheSameAgain(t *testing.T) {
	r := rand.New(rand.NewSource(99))
	far := 0
	for range 3000 {
		s, m := busy(t, r, 10)
		level := r.Intn(s.Level() + 1)
		back(t, s, level)
		if s.Propagate() != -1 {
			continue
		}
		var decided []int
		told := [][]int{trueLits(s.Marks())}
		for range 5 {
			m.marks = s.Marks()
			lit := m.open(r)
			if lit == 0 || s.Decide(lit) != api.OK || s.Propagate() != -1 {
				break
			}
			decided = append(decided, lit)
			told = append(told, trueLits(s.Marks()))
		}
		for range 2 {
			back(t, s, level)
			for i, want := range told {
				if i > 0 {
					decide(t, s, decided[i-1])
				}
				quiet(t, "once more", s, slices.Clone(want)...)
			}
			far = max(far, len(decided))
		}
	}
	if far < 5 {
		t.Fatal("so many decisions:", far)
	}
}
