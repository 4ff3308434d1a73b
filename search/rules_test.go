package search_test

import (
	"fmt"
	"math/rand"
	"slices"
	"sync"
	"testing"

	"fulcrum/api"
	"fulcrum/search"
)

// The rules R1 to R4 of DOC.md in this layer. (R1 with theories that are not honest: liars_test.go.)

func TestR1AnyArguments(t *testing.T) {
	ints := append(noLits(2), 1, -1, 2, -2)
	for _, atoms := range ints {
		for _, th := range []search.Theory{nil, &witness{}, &honest{said: api.Said{Clash: api.Clause{0}}}} {
			s, _ := search.New(atoms, th)
			for _, a := range ints {
				s.Add(api.Clause{a})
				for _, b := range ints {
					s.Add(api.Clause{a, b, a})
					s.Solve(lits(a, b, b))
				}
			}
			s.Add(nil)
			s.Solve(nil)
			s.Grow()
			s.Solve(ints)
			s.Atoms()
			s.Steps()
		}
	}
}

// Beside an error there is nothing else, and nothing has changed: a solver that was asked wrongly goes on as one that was not.
func TestR2NothingChangesBesideAnError(t *testing.T) {
	r := rand.New(rand.NewSource(2))
	for i := range 200 {
		p := &problem{atoms: 5, stands: someStand(r, 5, 60)}
		one, other := newFixed(5, p.stands, manners()["now and then"], int64(i)), newFixed(5, p.stands, manners()["now and then"], int64(i))
		s, like := newSolver(t, 5, one), newSolver(t, 5, other)
		for range 6 {
			for _, lit := range noLits(5) {
				wantErr(t, "Add", s.Add(api.Clause{1, lit}), api.ErrClause)
				f, e := s.Solve(lits(-2, lit))
				wantErr(t, "Solve", e, api.ErrArg)
				wantNothing(t, f)
			}
			c := someClause(r, 5)
			p.clauses = append(p.clauses, c)
			add(t, s, c)
			add(t, like, c)
			assume := someLits(r, 5, 4)
			wantSame(t, "beside errors", wantRight(t, s, p, assume...), solve(t, like, p, assume...))
			wantSameSteps(t, "beside errors", s.Steps(), like.Steps())
		}
	}
}

func wantSame(t *testing.T, what string, got, want api.Found) {
	t.Helper()
	if got.Kind != want.Kind || !slices.Equal(got.Model, want.Model) || !slices.Equal(got.Core, want.Core) {
		t.Fatalf("%s: %+v, not %+v", what, got, want)
	}
}

func wantSameSteps(t *testing.T, what string, got, want []api.Step) {
	t.Helper()
	if !slices.EqualFunc(got, want, sameStep) {
		t.Fatalf("%s: the steps %v, not %v", what, got, want)
	}
}

// What is handed to Add and Solve is neither changed nor kept, nor the room behind its end. (Of what a theory says fixed looks at that.)
func TestR3HandedIn(t *testing.T) {
	r := rand.New(rand.NewSource(3))
	for range 200 {
		p := &problem{atoms: 6}
		s := newSolver(t, 6, nil)
		var handed [][]int
		for range 10 {
			c := roomy(someClause(r, 6))
			p.clauses = append(p.clauses, slices.Clone(c))
			was := slices.Clone(c[:cap(c)])
			add(t, s, c)
			wantUnchanged(t, c, was)
			spoil(c, behind)
			assume := roomy(someLits(r, 6, 4))
			was = slices.Clone(assume[:cap(assume)])
			wantRight(t, s, p, assume...)
			wantUnchanged(t, assume, was)
			spoil(assume, behind)
			wantRight(t, s, p)
			wantSteps(t, p, s.Steps(), nil)
			handed = append(handed, c, assume)
		}
		for _, l := range handed {
			if slices.ContainsFunc(l[:cap(l)], func(n int) bool { return n != behind }) {
				t.Fatal("the solver writes into what it was given")
			}
		}
	}
}

func wantUnchanged(t *testing.T, l, was []int) {
	t.Helper()
	if !slices.Equal(l[:cap(l)], was) {
		t.Fatalf("what was handed in is %v, and was %v", l[:cap(l)], was)
	}
}

// The assumptions may be spoilt while the solver calls its theory.
func TestR3AssumptionsAreNotKept(t *testing.T) {
	for _, by := range []int{behind, 0, 3, -1} {
		assume := lits(1, 2, 3)
		l := &liar{witness: witness{atoms: 4}}
		l.assert = func(int) api.Said {
			spoil(assume, by)
			return api.Said{}
		}
		p := &problem{atoms: 4, clauses: []api.Clause{{4, -1}}}
		s := newSolver(t, 4, l, p.clauses...)
		f, e := s.Solve(assume)
		wantErr(t, "Solve", e, api.OK)
		wantModel(t, p, lits(1, 2, 3), f)
		assume = lits(1, 2, -4)
		f, e = s.Solve(assume)
		wantErr(t, "Solve", e, api.OK)
		wantUnsat(t, "Solve", f, 1, -4)
	}
}

// Answers are new memory, their spare room too, and each list by itself.
func TestR3AnswersAreNewMemory(t *testing.T) {
	r := rand.New(rand.NewSource(32))
	for i := range 100 {
		p := &problem{atoms: 5, stands: someStand(r, 5, 50)}
		th := newFixed(5, p.stands, manners()["now and then"], int64(i))
		s := newSolver(t, 5, th)
		for range 8 {
			c := someClause(r, 5)
			p.clauses = append(p.clauses, c)
			add(t, s, c)
			assume := someLits(r, 5, 4)
			was := slices.Clone(assume)
			f := wantRight(t, s, p, assume...)
			spoil(f.Core, behind)
			spoil(f.Model, true)
			if !slices.Equal(assume, was) {
				t.Fatal("the Core shares memory with the assumptions")
			}
			want := s.Steps()
			for n := range want {
				wantByItself(t, s, n, want)
			}
			steps := s.Steps()
			spoil(steps, api.Step{Kind: -1})
			wantSameSteps(t, "behind what was done to the list", s.Steps(), want)
		}
	}
}

// wantByItself: one step's lists are spoilt, and nothing else is.
func wantByItself(t *testing.T, s *search.Solver, n int, want []api.Step) {
	t.Helper()
	steps := s.Steps()
	spoil(steps[n].Clause, behind)
	if !slices.Equal(steps[n].By, want[n].By) {
		t.Fatalf("the step %d: its lists share memory", n)
	}
	spoil(steps[n].By, behind)
	steps[n] = want[n]
	wantSameSteps(t, "the other steps", steps, want)
	wantSameSteps(t, "asked again", s.Steps(), want)
}

// The same calls answer the same, on solvers side by side that know nothing of one another.
func TestR4SideBySide(t *testing.T) {
	play := func(seed int64) string {
		r := rand.New(rand.NewSource(seed))
		p := someProblem(r, 6)
		p.stands = someStand(r, 6, 50)
		s, _ := search.New(6, newFixed(6, p.stands, manners()["now and then"], seed))
		free, _ := search.New(30, nil)
		out := ""
		for _, c := range append(threes(r, 30, 100), p.clauses...) {
			free.Add(c)
		}
		for range 6 {
			s.Add(someClause(r, 6))
			f, e := s.Solve(someLits(r, 6, 3))
			g, d := free.Solve(someLits(r, 30, 9))
			out += fmt.Sprint(f, e, g, d)
		}
		return out + fmt.Sprint(s.Steps(), free.Steps())
	}
	var alone []string
	for seed := range 24 {
		alone = append(alone, play(int64(seed)))
	}
	together := make([]string, len(alone))
	var all sync.WaitGroup
	for seed := range together {
		all.Go(func() { together[seed] = play(int64(seed)) })
	}
	all.Wait()
	for seed := range alone {
		if alone[seed] != together[seed] {
			t.Fatalf("the calls of %d answer otherwise", seed)
		}
	}
}

// Calls on two solvers by turns answer as calls on the one alone.
func TestR4ByTurns(t *testing.T) {
	n, l := holes(4)
	p := &problem{atoms: n, clauses: l}
	alone := newSolver(t, n, nil, l...)
	one, other := newSolver(t, n, nil), newSolver(t, n, nil)
	for _, c := range l {
		add(t, one, c)
		add(t, other, slices.Clone(c[1:]))
		other.Solve(c[:1])
	}
	want := solve(t, alone, p)
	other.Solve(nil)
	wantSame(t, "by turns", solve(t, one, p), want)
	wantSameSteps(t, "by turns", one.Steps(), alone.Steps())
}
