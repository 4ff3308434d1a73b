package units_test

import (
	"fmt"
	"math"
	"math/rand"
	"slices"
	"sync"
	"testing"

	"fulcrum/api"
	"fulcrum/units"
)

// The rules R1 to R4 of DOC.md in this layer.

func TestR1AnyArguments(t *testing.T) {
	ints := append(noLits(2), 1, -1, 2, -2)
	var l []api.Clause
	for _, a := range ints {
		for _, b := range ints {
			l = append(l, api.Clause{a, b, a})
		}
	}
	for _, atoms := range ints {
		for _, marks := range [][]api.Mark{nil, {{}}, {at(1, 1, -1)}, {at(atoms, atoms, atoms)}} {
			units.Load(atoms, l, marks)
			units.Load(2, l[len(l)-3:], marks)
		}
		s, _ := units.New(atoms)
		for _, c := range append(l, nil, api.Clause{}) {
			s.Add(c)
			s.Propagate()
		}
		for _, n := range ints {
			s.Value(n)
			s.Decide(n)
			s.Force(n, n)
			s.Force(n, 0)
			s.Back(n)
		}
		s.Grow()
		s.Clauses()
		s.Marks()
		s.Level()
		s.Atoms()
	}
}

// Beside an error there is nothing else, and nothing has changed: not what Propagate does then either.
func TestR2NothingChangesBesideAnError(t *testing.T) {
	r := rand.New(rand.NewSource(2))
	for range 300 {
		s, m := busy(t, r, 30)
		for _, lit := range noLits(m.atoms) {
			wantErr(t, "Decide", s.Decide(lit), api.ErrArg)
			wantErr(t, "Force", s.Force(lit, 0), api.ErrArg)
			n, e := s.Add(api.Clause{1, lit})
			wantErr(t, "Add", e, api.ErrClause)
			wantInt(t, "Add beside an error", n, 0)
			v, e := s.Value(lit)
			wantErr(t, "Value", e, api.ErrVar)
			wantInt(t, "Value beside an error", v, 0)
		}
		for _, n := range []int{-1, len(m.clauses), math.MaxInt, math.MinInt} {
			wantErr(t, "Force", s.Force(1, n), api.ErrClause)
		}
		for _, mark := range m.marks {
			wantErr(t, "Decide", s.Decide(-mark.Lit), api.ErrTrail)
		}
		for _, level := range []int{-1, m.level() + 1, math.MaxInt, math.MinInt} {
			wantErr(t, "Back", s.Back(level), api.ErrLevel)
		}
		wantLike(t, "behind errors", s, m)
		wantPropagate(t, r, s, m)
	}
}

const behind = -77

// roomy is the same literals with room behind their end, in which something else stands.
func roomy(c api.Clause) api.Clause {
	return append(slices.Clone(c), behind, behind, behind)[: len(c) : len(c)+3]
}

func spoil[T any](l []T, by T) {
	l = l[:cap(l)]
	for i := range l {
		l[i] = by
	}
}

// What is handed to Add is neither changed nor kept, nor the room behind its end.
func TestR3ClausesHandedIn(t *testing.T) {
	r := rand.New(rand.NewSource(3))
	for range 300 {
		s, m := busy(t, r, 20)
		c := roomy(someClause(r, m.atoms))
		was := slices.Clone(c[:cap(c)])
		m.add(c)
		add(t, s, c, len(m.clauses)-1)
		wantPropagate(t, r, s, m)
		if !slices.Equal(c[:cap(c)], was) {
			t.Fatal("what was handed in is changed")
		}
		spoil(c, behind)
		wantLike(t, "behind what was done to the clause", s, m)
		for range 10 {
			step(t, r, s, m)
		}
		wantLike(t, "gone on with", s, m)
		if slices.ContainsFunc(c[:cap(c)], func(lit int) bool { return lit != behind }) {
			t.Fatal("the store writes into what it was given")
		}
	}
}

func TestR3LoadKeepsNothing(t *testing.T) {
	r := rand.New(rand.NewSource(31))
	for i := range 300 {
		_, m := busy(t, r, 30)
		l := make([]api.Clause, 0, len(m.clauses)+2)
		for _, c := range m.clauses {
			l = append(l, roomy(c))
		}
		marks := append(make([]api.Mark, 0, len(m.marks)+2), m.marks...)
		if i%3 == 0 { // one that may not be is not changed either
			marks = append(marks, at(0, 9, 9))
		}
		was := fmt.Sprint(l[:cap(l)], marks[:cap(marks)])
		s, e := units.Load(m.atoms, l, marks)
		if e == api.OK {
			s.Propagate()
			s.Decide(1)
			s.Add(api.Clause{1})
			s.Back(0)
		}
		if fmt.Sprint(l[:cap(l)], marks[:cap(marks)]) != was {
			t.Fatal("what was handed in is changed")
		}
		s, e = units.Load(m.atoms, l, marks)
		if i%3 == 0 {
			wantErr(t, "Load", e, api.ErrTrail)
			continue
		}
		wantErr(t, "Load", e, api.OK)
		for _, c := range l {
			spoil(c, behind)
		}
		spoil(l, api.Clause{behind})
		spoil(marks, at(behind, behind, behind))
		wantLike(t, "behind what was done to the lists", s, m)
		for range 20 {
			step(t, r, s, m)
		}
		wantLike(t, "gone on with", s, m)
	}
}

// An answer is new memory, its spare room too: what is done to it changes neither the store nor another answer, nor another clause of it.
func TestR3AnswersAreNewMemory(t *testing.T) {
	r := rand.New(rand.NewSource(32))
	for range 300 {
		s, m := busy(t, r, 30)
		first, second := s.Clauses(), s.Clauses()
		marks, others := s.Marks(), s.Marks()
		for i, c := range first {
			spoil(c, 1000+i)
		}
		for i, c := range first {
			if slices.ContainsFunc(c[:cap(c)], func(lit int) bool { return lit != 1000+i }) {
				t.Fatal("two clauses of an answer share memory")
			}
		}
		spoil(first, api.Clause{behind})
		spoil(marks, at(behind, behind, behind))
		wantClauses(t, "another answer", second, m.clauses...)
		wantMarks(t, "another answer", others, m.marks...)
		wantLike(t, "behind what was done to an answer", s, m)
		kept := m.clone()
		for range 20 {
			step(t, r, s, m)
		}
		wantLike(t, "gone on with", s, m)
		wantClauses(t, "an answer from ahead", second, kept.clauses...)
		wantMarks(t, "an answer from ahead", others, kept.marks...)
		if slices.ContainsFunc(marks[:cap(marks)], func(mark api.Mark) bool { return mark != at(behind, behind, behind) }) {
			t.Fatal("the store writes into what it told")
		}
	}
}

// nil and the empty list are the same.
func TestR3NilIsTheEmptyList(t *testing.T) {
	for _, c := range []api.Clause{nil, {}} {
		s := newStore(t, 1, c)
		wantInt(t, "the empty clause", s.Propagate(), 0)
		s = loaded(t, 1, []api.Clause{c})
		wantInt(t, "the empty clause", s.Propagate(), 0)
		wantClauses(t, "the empty clause", s.Clauses(), api.Clause{})
	}
	for _, l := range [][]api.Clause{nil, {}} {
		for _, marks := range [][]api.Mark{nil, {}} {
			s, e := units.Load(1, l, marks)
			wantErr(t, "Load", e, api.OK)
			wantLike(t, "loaded", s, &model{atoms: 1})
		}
	}
}

// Stores do not disturb one another, be one loaded with what the other told.
func TestR4StoresKnowNothingOfOneAnother(t *testing.T) {
	r := rand.New(rand.NewSource(4))
	for range 100 {
		a, m := busy(t, r, 20)
		b, n := busy(t, r, 20)
		c, o := loaded(t, a.Atoms(), a.Clauses(), a.Marks()...), m.clone()
		for range 60 {
			switch r.Intn(3) {
			case 0:
				step(t, r, a, m)
			case 1:
				step(t, r, b, n)
			case 2:
				step(t, r, c, o)
			}
		}
		wantLike(t, "one", a, m)
		wantLike(t, "another one", b, n)
		wantLike(t, "one of what it told", c, o)
	}
}

// The same calls give the same answers, also those that are free, side by side too.
func TestR4TheSameCallsGiveTheSameAnswers(t *testing.T) {
	const many = 8
	var told [many]string
	var all sync.WaitGroup
	for i := range many {
		all.Go(func() {
			r := rand.New(rand.NewSource(44))
			for range 20 {
				s, _ := units.New(8)
				for range 60 {
					s.Add(someClause(r, 8))
					s.Decide(someLit(r, 8))
					told[i] += fmt.Sprint(s.Propagate(), s.Marks(), s.Level())
					if r.Intn(3) > 0 {
						s.Back(s.Level() / 2)
					}
				}
				told[i] += fmt.Sprint(s.Clauses())
			}
		})
	}
	all.Wait()
	for _, text := range told {
		if text != told[0] {
			t.Fatal("the same calls, other answers")
		}
	}
}

// What only asks writes nothing, and changes no answer to come: one store may be asked side by side, another one is not asked at all.
func TestR4AskedSideBySide(t *testing.T) {
	for seed := range int64(50) {
		s, m := busy(t, rand.New(rand.NewSource(seed)), 40)
		quietly, _ := busy(t, rand.New(rand.NewSource(seed)), 40)
		var all sync.WaitGroup
		for range 4 {
			all.Go(func() {
				for range 5 {
					s.Clauses()
					s.Marks()
					s.Value(1)
					s.Level()
					s.Atoms()
				}
			})
		}
		all.Wait()
		wantLike(t, "asked side by side", s, m)
		wantInt(t, "Propagate", s.Propagate(), quietly.Propagate())
		wantMarks(t, "behind Propagate", s.Marks(), quietly.Marks()...)
	}
}
