package search

import (
	"math/rand"
	"slices"
	"testing"

	"fulcrum/api"
)

func TestLuby(t *testing.T) {
	want := []int{1, 1, 2, 1, 1, 2, 4, 1, 1, 2, 1, 1, 2, 4, 8, 1, 1, 2}
	for i, n := range want {
		if luby(i+1) != n {
			t.Errorf("the number at %d: %d, not %d", i+1, luby(i+1), n)
		}
	}
	if luby(1<<40-1) != 1<<39 {
		t.Errorf("no number may be the greatest one: %d", luby(1<<40-1))
	}
}

func TestPace(t *testing.T) {
	p := newPace()
	run := 0
	for place := 1; place < 20; place++ {
		for range firstRun*luby(place) - 1 {
			if p.isOver() {
				t.Fatalf("the run %d is over early", place)
			}
		}
		if !p.isOver() {
			t.Fatalf("the run %d is not over", place)
		}
		run++
	}
}

func hard(r *rand.Rand, atoms, count int) []api.Clause {
	var l []api.Clause
	for range count {
		c := api.Clause{}
		for _, v := range r.Perm(atoms)[:3] {
			c = append(c, (v+1)*(1-2*r.Intn(2)))
		}
		l = append(l, c)
	}
	return l
}

func solver(t *testing.T, atoms int, l []api.Clause) *Solver {
	t.Helper()
	s, e := New(atoms, nil)
	if e != api.OK {
		t.Fatal(e)
	}
	for _, c := range l {
		if e := s.Add(c); e != api.OK {
			t.Fatal(e)
		}
	}
	return s
}

// wantInOrder: the lists that belong together agree.
func wantInOrder(t *testing.T, s *Solver) {
	t.Helper()
	stored := s.store.Clauses()
	if len(stored) != len(s.clauses) || len(s.clauses) != len(s.origins) {
		t.Fatalf("%d clauses in the store, %d beside it, %d origins", len(stored), len(s.clauses), len(s.origins))
	}
	learnt := 0
	for n, c := range s.clauses {
		if s.origins[n].rank > 0 {
			learnt++
		}
		if !slices.Equal(c, s.steps[s.origins[n].step].Clause) {
			t.Fatalf("the clause %d, %v, is of the step %v", n, c, s.steps[s.origins[n].step])
		}
		if len(c) != 1 && !slices.Equal(c, stored[n]) {
			t.Fatalf("the clause %d is %v in the store, %v beside it", n, stored[n], c)
		}
	}
	if learnt != s.learnt {
		t.Fatalf("%d clauses were learnt, not %d", learnt, s.learnt)
	}
	for _, m := range s.store.Marks()[:s.settled] {
		step := s.steps[s.facts[atomOf(m.Lit)]-1]
		if m.Level != 0 || slices.ContainsFunc(step.Clause, func(lit int) bool { return lit != m.Lit }) {
			t.Fatalf("the fact %v is of the step %v", m, step)
		}
	}
}

// Behind a search the store is on level 0, and all atoms that are open stand in the heap.
func TestBehindASearch(t *testing.T) {
	for seed := range 20 {
		r := rand.New(rand.NewSource(int64(seed)))
		atoms := 20 + 5*seed
		s := solver(t, atoms, hard(r, atoms, atoms*4))
		for range 5 {
			s.Solve([]int{1 + r.Intn(atoms), -1 - r.Intn(atoms)})
			wantInOrder(t, s)
			if s.store.Level() != 0 || s.busy {
				t.Fatalf("on level %d", s.store.Level())
			}
			for atom := 1; atom <= atoms; atom++ {
				if s.value(atom) == 0 && !s.order.Has(atom-1) {
					t.Fatalf("%d is open and does not stand in the heap", atom)
				}
			}
		}
	}
}

// What was learnt is let go where there is much of it, so what is kept is far less than what was done.
func TestTidy(t *testing.T) {
	r := rand.New(rand.NewSource(3))
	l := hard(r, 180, 180*426/100)
	s := solver(t, 180, l)
	s.Solve(nil)
	wantInOrder(t, s)
	steps := len(s.steps) - len(l)
	if s.room == roomAtFirst || s.learnt > s.room+1 || s.learnt > steps/2 {
		t.Fatalf("room for %d, %d were learnt and kept of %d", s.room, s.learnt, steps)
	}
}

// Where much that was learnt may not go, there is more room.
func TestTidyWhereNothingMayGo(t *testing.T) {
	const atoms = 4 * roomAtFirst
	s := solver(t, atoms, nil)
	s.store.Decide(1)
	for n := 1; n < atoms; n++ {
		s.put(api.Clause{-n, n + 1}, origin{s.write(api.StepFarkas, api.Clause{-n, n + 1}, nil), 2})
	}
	s.store.Propagate()
	s.tidy()
	wantInOrder(t, s)
	if s.learnt != atoms-1 || s.room < 2*s.learnt {
		t.Fatalf("%d are kept, with room for %d", s.learnt, s.room)
	}
}

// Letting clauses go changes no literal that is true, nor the clauses that forced them, on whatever level.
func TestShrink(t *testing.T) {
	for seed := range 60 {
		r := rand.New(rand.NewSource(int64(seed)))
		s := solver(t, 60, hard(r, 60, 210))
		s.Solve(nil)
		for range 6 {
			lit := 1 + r.Intn(60)
			if s.value(lit) == 0 && s.store.Propagate() < 0 {
				s.store.Decide(-lit)
			}
		}
		s.store.Propagate()
		was := s.store.Marks()
		var reasons []origin
		for _, m := range was {
			if m.Reason >= 0 {
				reasons = append(reasons, s.origins[m.Reason])
			}
		}
		learnt := s.learnt
		s.shrink()
		wantInOrder(t, s)
		for i, m := range s.store.Marks() {
			if m.Lit != was[i].Lit || m.Level != was[i].Level || (m.Reason < 0) != (was[i].Reason < 0) {
				t.Fatalf("the mark %v was %v", m, was[i])
			}
			if m.Reason >= 0 {
				if s.origins[m.Reason] != reasons[0] {
					t.Fatalf("the reason of %v has another origin", m)
				}
				reasons = reasons[1:]
			}
		}
		if len(reasons) > 0 || learnt > 10 && s.learnt >= learnt {
			t.Fatalf("%d of %d that were learnt are kept", s.learnt, learnt)
		}
	}
}

// Those of the lowest rank stay, of these the shortest, of these the newest; and all that were added, but what is true for good.
func TestChosen(t *testing.T) {
	s := solver(t, 9, []api.Clause{{1}, {2, 3}, {1, 4}, {-1, 5, 6}})
	for _, x := range []struct {
		c    api.Clause
		rank int
	}{{api.Clause{4, 5, 6}, 3}, {api.Clause{4, 5, 6}, 3}, {api.Clause{2, 4}, 3}, {api.Clause{7, 8, 9, 2}, 2}, {api.Clause{-4, -5}, 4}, {api.Clause{1, 2}, 1}, {api.Clause{-5, -7}, 5}, {api.Clause{-8, 9}, 9}} {
		s.put(x.c, origin{s.write(api.StepFarkas, x.c, nil), x.rank})
	}
	s.store.Propagate()
	s.settle()
	want := []bool{true, true, false, true, false, true, true, true, false, false, false, false}
	if got := s.chosen(s.store.Marks()); !slices.Equal(got, want) {
		t.Errorf("%v stay, not %v", got, want)
	}
}

// A store that is full lets clauses go ahead of taking one more; what was added and what forces stays.
func TestPutMakesRoom(t *testing.T) {
	s := solver(t, 3, []api.Clause{{1, 2, 3}})
	s.store.Decide(1)
	for range mostAwake {
		s.put(api.Clause{2, 3}, origin{0, 0})
	}
	step := s.write(api.StepFarkas, api.Clause{-1, 2}, nil)
	for len(s.clauses) < api.MaxClauses {
		s.put(s.steps[step].Clause, origin{step, 1 + len(s.clauses)%7})
	}
	s.store.Propagate()
	s.put(s.steps[step].Clause, origin{step, 1})
	if n := len(s.clauses); n > api.MaxClauses*4/5 || n < mostAwake || len(s.store.Marks()) != 2 {
		t.Fatalf("%d clauses are kept, true are %v", n, s.store.Marks())
	}
	if len(s.store.Clauses()) != len(s.clauses) {
		t.Fatal("the store has others")
	}
}

// Clauses that rest are looked at where all atoms have a truth: those that are broken then come in.
func TestWake(t *testing.T) {
	s := solver(t, 3, nil)
	var steps []int
	for _, c := range []api.Clause{{1, 2}, {-1, 3}, {-2, -3}, {1, -3}} {
		steps = append(steps, s.write(api.StepInput, c, nil))
	}
	s.resting = steps
	f, e := s.Solve([]int{-1})
	if e != api.OK || f.Kind != api.SearchSat || f.Model[1] || !f.Model[2] || f.Model[3] {
		t.Fatalf("Solve(-1): %d, %+v", e, f)
	}
	if n := len(s.clauses); n == 0 || n > 4 {
		t.Fatalf("%d clauses came in", n)
	}
	wantInOrder(t, s)
	if f, e = s.Solve([]int{1, 2}); e != api.OK || f.Kind != api.SearchUnsat {
		t.Fatalf("Solve(1, 2): %d, %+v", e, f)
	}
	if s.wake() {
		t.Fatal("one comes in where no clause is broken")
	}
}

// The heap grows by doubling, so most atoms that are added leave it as it is.
func TestGrowKeepsTheOrder(t *testing.T) {
	s := solver(t, 0, nil)
	made := 0
	for range 5000 {
		was := s.order
		if _, e := s.Grow(); e != api.OK {
			t.Fatal(e)
		}
		if s.order != was {
			made++
		}
	}
	if made > 14 || s.order.Len() != 5000 {
		t.Fatalf("%d heaps were made, %d stand in it", made, s.order.Len())
	}
}

// The theory is told at each decision while there is little to tell, and seldom where there is much.
func TestWaits(t *testing.T) {
	for _, atoms := range []int{manyMarks, 40 * manyMarks} {
		c := &counted{}
		s, _ := New(atoms, c)
		if f, e := s.Solve(nil); e != api.OK || f.Kind != api.SearchSat {
			t.Fatal(e, f)
		}
		if c.asserts != atoms || c.pushes != atoms {
			t.Fatalf("%d asserted, %d levels", c.asserts, c.pushes)
		}
	}
	s, _ := New(40*manyMarks, &counted{})
	r := newRun(s, nil)
	for r.store.Level() < 20*manyMarks {
		r.decide()
	}
	r.report()
	if r.waits != 20 || len(r.told) != 20*manyMarks {
		t.Fatalf("%d were told, for %d decisions it is not told next", len(r.told), r.waits)
	}
	if next := r.force(); next != deciding {
		t.Fatalf("the next state is %d", next)
	}
	for range 20 {
		r.decide()
	}
	if next := r.force(); next != telling {
		t.Fatalf("the next state is %d", next)
	}
}

// counted is a theory that lets all stand, and counts.
type counted struct{ asserts, pushes int }

func (c *counted) Assert(int) api.Said { c.asserts++; return api.Said{} }
func (c *counted) Push()               { c.pushes++ }
func (c *counted) Back(int)            {}
func (c *counted) Final() api.Said     { return api.Said{} }

// A clause of the theory for a literal for which another one is there already is not taken.
func TestPromisedOnce(t *testing.T) {
	s, _ := New(4, &counted{})
	r := newRun(s, nil)
	r.tell(1)
	r.tell(2)
	said := api.Said{Implied: []api.Clause{{-1, 3}, {-2, 3}, {3, -1, -2}, {-1, 4}}}
	s.store.Decide(1)
	s.store.Decide(2)
	if !r.heed(said) || len(s.clauses) != 2 {
		t.Fatalf("%v were taken", s.clauses)
	}
	r.force()
	if !r.heed(said) || len(s.clauses) != 2 {
		t.Fatalf("%v were taken", s.clauses)
	}
}

// Atoms that were added are kept as those of New are.
func TestGrownIsAsNew(t *testing.T) {
	const atoms = 9
	made, grown := solver(t, atoms, nil), solver(t, 0, nil)
	for range atoms {
		grown.Grow()
	}
	if !slices.Equal(made.facts, grown.facts) || !slices.Equal(made.heard, grown.heard) || !slices.Equal(made.liked, grown.liked) {
		t.Fatalf("%+v is not as %+v", grown, made)
	}
	if len(grown.facts) != atoms+1 || len(grown.heard) != atoms+1 || len(grown.liked) != atoms+1 {
		t.Fatalf("a list is no longer than %d", atoms)
	}
}

// A search begins anew far less often than there are conflicts, but again and again.
func TestBeginsAnew(t *testing.T) {
	l := hard(rand.New(rand.NewSource(3)), 180, 180*426/100)
	b := &begins{}
	s, _ := New(180, b)
	for _, c := range l {
		s.Add(c)
	}
	s.Solve(nil)
	runs := (len(s.steps) - len(l)) / firstRun
	if runs < 20 || b.anew < runs/4 || b.anew > 2*runs {
		t.Fatalf("%d beginnings, %d times %d conflicts", b.anew, runs, firstRun)
	}
}

// begins counts how often all levels are left.
type begins struct {
	counted
	anew int
}

func (b *begins) Back(level int) {
	if level == 0 {
		b.anew++
	}
}
