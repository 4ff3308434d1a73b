package units_test

import (
	"fmt"
	"math/rand"
	"slices"
	"testing"

	"fulcrum/api"
	"fulcrum/units"
)

func TestU5NothingToDo(t *testing.T) {
	for _, s := range []*units.Store{newStore(t, 0), newStore(t, 3), newStore(t, 3, api.Clause{1, 2}, api.Clause{-1, -2, 3})} {
		for range 3 {
			quiet(t, "nothing to do", s)
		}
	}
	s := newStore(t, 3, api.Clause{1, 2}, api.Clause{-1, -2, 3})
	decide(t, s, 1)
	quiet(t, "clauses that are true", s, 1)
	decide(t, s, 3)
	for range 3 {
		quiet(t, "clauses that are true", s, 1, 3)
	}
	wantMarks(t, "nothing was put there", s.Marks(), at(1, 1, -1), at(3, 2, -1))
}

func TestU5UnitClauses(t *testing.T) {
	s := newStore(t, 4, api.Clause{3}, api.Clause{-1, -1}, api.Clause{3}, api.Clause{-4, -4, -4})
	quiet(t, "at level 0", s, -4, -1, 3)
	wantInt(t, "Level", s.Level(), 0)
	for _, m := range s.Marks() {
		if m.Level != 0 || !slices.Contains(s.Clauses()[m.Reason], m.Lit) {
			t.Fatal("forced:", m)
		}
	}
	for level := range 2 {
		s = newStore(t, 2, api.Clause{1}, api.Clause{-1})
		if level > 0 {
			decide(t, s, 2)
		}
		if n := s.Propagate(); n < 0 || n > 1 {
			t.Fatal("two that can't both be:", n)
		}
		wantInt(t, "Level", s.Level(), level)
	}
}

// A clause that has one literal forces it at the level that there is, and anew at each lower one.
func TestU5UnitClausesAtALevel(t *testing.T) {
	s := newStore(t, 6, api.Clause{-1, -1})
	decide(t, s, 2, 3)
	quiet(t, "two levels", s, -1, 2, 3)
	wantMarks(t, "two levels", s.Marks(), at(2, 1, -1), at(3, 2, -1), at(-1, 2, 0))
	add(t, s, api.Clause{4}, 1)
	decide(t, s, 5)
	quiet(t, "three levels", s, -1, 2, 3, 4, 5)
	for level := 2; level >= 0; level-- {
		back(t, s, level)
		quiet(t, fmt.Sprint("back to ", level), s, slices.Concat([]int{-1, 4}, []int{2, 3}[:level])...)
		wantInt(t, "Level", s.Level(), level)
	}
	back(t, s, 0)
	quiet(t, "what is forced at level 0 stays", s, -1, 4)
}

// Each mark is put as Force would put it.
func TestU5AsForceWouldPutIt(t *testing.T) {
	s := newStore(t, 6, api.Clause{-1, 2}, api.Clause{-1, -2, 3}, api.Clause{-4, -3, 5}, api.Clause{6, -5})
	decide(t, s, 4)
	quiet(t, "level 1", s, 4)
	decide(t, s, 1)
	quiet(t, "level 2", s, 1, 2, 3, 4, 5, 6)
	wantMarks(t, "one after the other", s.Marks(), at(4, 1, -1), at(1, 2, -1), at(2, 2, 0), at(3, 2, 1), at(5, 2, 2), at(6, 2, 3))
}

// chain is (-1 2), (-2 3), ..: the first one makes all others true.
func chain(atoms int) []api.Clause {
	var out []api.Clause
	for atom := 1; atom < atoms; atom++ {
		out = append(out, api.Clause{-atom, atom + 1})
	}
	return out
}

func TestU5LongChains(t *testing.T) {
	const atoms = api.MaxTerms
	up, down := chain(atoms), chain(atoms)
	slices.Reverse(down)
	for _, l := range [][]api.Clause{up, down} {
		for _, lit := range []int{1, -atoms} { // from either end
			s := newStore(t, atoms, l...)
			decide(t, s, lit)
			wantInt(t, "Propagate", s.Propagate(), -1)
			marks := s.Marks()
			wantInt(t, "so many marks", len(marks), atoms)
			for i, m := range marks {
				want := lit + i // 1, 2, 3, .. and the other way round
				if m.Lit != want || m.Level != 1 || i > 0 && !slices.Contains(l[m.Reason], want) {
					t.Fatal("forced:", i, m)
				}
			}
			back(t, s, 0)
			quiet(t, "behind Back", s)
		}
	}
	ends := append(up, api.Clause{1}, api.Clause{-atoms})
	s := newStore(t, atoms, ends...)
	n := s.Propagate()
	if n < 0 {
		t.Fatal("a chain whose ends can't both be:", n)
	}
	for _, lit := range s.Clauses()[n] {
		if v, _ := s.Value(max(lit, -lit)); v*lit >= 0 {
			t.Fatal("not broken:", n)
		}
	}
}

// A literal that stands in very many clauses.
func TestU5ManyClausesOfOneLiteral(t *testing.T) {
	const atoms = 1 << 17
	var l []api.Clause
	for atom := 2; atom <= atoms; atom++ {
		l = append(l, api.Clause{-1, atom})
	}
	s := newStore(t, atoms, l...)
	for range 2 {
		decide(t, s, 1)
		wantInt(t, "Propagate", s.Propagate(), -1)
		wantInt(t, "so many marks", len(s.Marks()), atoms)
		back(t, s, 0)
		quiet(t, "behind Back", s)
	}
}

// A clause of very many literals, which become false one by one, up to the one that is forced: it is not gone over from its beginning each time.
func TestU5ALongClause(t *testing.T) {
	const atoms = 1 << 17
	var long api.Clause
	for atom := 1; atom <= atoms; atom++ {
		long = append(long, atom)
	}
	s := newStore(t, atoms, long)
	order := slices.Clone(long)
	for _, last := range []int{atoms, 1, atoms / 2} {
		if last == 1 {
			slices.Reverse(order)
		}
		for _, atom := range order {
			if atom != last {
				decide(t, s, -atom)
				wantInt(t, "Propagate", s.Propagate(), -1)
			}
		}
		marks := s.Marks()
		wantInt(t, "so many marks", len(marks), atoms)
		wantMarks(t, "the last one is forced", marks[atoms-1:], at(last, atoms-1, 0))
		back(t, s, 0)
		quiet(t, "behind Back", s)
	}
}

func TestU5OddClauses(t *testing.T) {
	s := newStore(t, 3, api.Clause{2, -3, 2, -3}, api.Clause{1, 2, -1}, api.Clause{3, 3, -3})
	decide(t, s, 3)
	quiet(t, "two literals, each twice", s, 2, 3)
	back(t, s, 0)
	decide(t, s, -2)
	quiet(t, "two literals, each twice", s, -3, -2)
	for _, lit := range []int{1, -1} {
		decide(t, s, lit)
		quiet(t, "a literal and its opposite", s, -3, -2, lit)
		back(t, s, 1)
	}
	for _, c := range []api.Clause{{1}, {1, 1}, {1, 1, 1}} {
		s = newStore(t, 1, c)
		decide(t, s, -1)
		wantInt(t, "one literal, which is false", s.Propagate(), 0)
		wantMarks(t, "broken", s.Marks(), at(-1, 1, -1))
	}
}

// The empty clause is broken at each level, whatever is done.
func TestU5TheEmptyClause(t *testing.T) {
	s := newStore(t, 3, api.Clause{1, 2}, nil, api.Clause{3})
	for range 3 {
		wantInt(t, "Propagate", s.Propagate(), 1)
		back(t, s, 0)
		wantInt(t, "Propagate", s.Propagate(), 1)
		decide(t, s, -1)
		wantInt(t, "Propagate", s.Propagate(), 1)
		add(t, s, api.Clause{-1, 1}, len(s.Clauses()))
		wantInt(t, "Propagate", s.Propagate(), 1)
		back(t, s, 0)
	}
}

// Where a clause is broken it is told, as often as is asked, till Back; nothing but what is forced is put there.
func TestU5BrokenAlready(t *testing.T) {
	r := rand.New(rand.NewSource(5))
	m := &model{atoms: 5}
	s := newStore(t, 5)
	for _, c := range []api.Clause{{1, 2}, {1, -2}, {-1, 3}, {3, 4}, {-3, 5}} {
		n, _ := m.add(c)
		add(t, s, c, n)
	}
	for _, lit := range []int{-1, -2} {
		decide(t, s, lit)
		m.decide(lit)
	}
	for range 3 {
		wantInt(t, "Propagate", wantPropagate(t, r, s, m), 0)
	}
	wantErr(t, "Decide where a clause is broken", s.Decide(-5), m.decide(-5))
	wantInt(t, "Propagate", wantPropagate(t, r, s, m), 0)
	n, _ := m.add(api.Clause{-4})
	add(t, s, api.Clause{-4}, n)
	wantInt(t, "Propagate", wantPropagate(t, r, s, m), 0)
	for level := 3; level >= 0; level-- { // -1 makes the clauses 0 and 1 clash; without it nothing does
		back(t, s, level)
		m.back(level)
		if whole := wantPropagate(t, r, s, m) == -1; whole != (level == 0) {
			t.Fatal("Propagate at level", level)
		}
	}
	wantLits(t, "no clause is broken any more", s, -4, 3, 5)
}

func TestU5SeveralAreBroken(t *testing.T) {
	l := []api.Clause{{1, 2}, {-3}, {2, 1, 1}, {4, 3}, {1}, {5, -5}, {1, 5}}
	s := newStore(t, 5, l...)
	decide(t, s, -1, -2)
	for range 3 {
		if n := s.Propagate(); n != 0 && n != 2 && n != 4 {
			t.Fatal("Propagate:", n)
		}
	}
	back(t, s, 1) // one of them is broken still
	for range 3 {
		wantInt(t, "Propagate", s.Propagate(), 4)
	}
	back(t, s, 0)
	quiet(t, "at level 0", s, -3, 1, 4)
}

// Clauses that are broken, or forcing, when they are added: at any level, with literals that became false at lower ones.
func TestU5ClausesThatComeLate(t *testing.T) {
	s := newStore(t, 8)
	decide(t, s, 1, 2, 3, 4)
	quiet(t, "four levels", s, 1, 2, 3, 4)
	add(t, s, api.Clause{-2, -1, 5}, 0)
	add(t, s, api.Clause{6, -1}, 1)
	add(t, s, api.Clause{-5, -6, 7, -3}, 2)
	quiet(t, "forced at level 4", s, 1, 2, 3, 4, 5, 6, 7)
	wantInt(t, "Level", s.Level(), 4)
	back(t, s, 3)
	quiet(t, "forced at level 3", s, 1, 2, 3, 5, 6, 7)
	back(t, s, 2)
	quiet(t, "forced at level 2", s, 1, 2, 5, 6)
	decide(t, s, 3)
	quiet(t, "by the third one", s, 1, 2, 3, 5, 6, 7)
	back(t, s, 1)
	quiet(t, "forced at level 1", s, 1, 6)
	back(t, s, 0)
	quiet(t, "nothing is left", s)
}

func TestU5ClausesThatComeBroken(t *testing.T) {
	s := newStore(t, 6)
	decide(t, s, 1, 2, 3, 4)
	add(t, s, api.Clause{-1, -2, -4}, 0)
	for range 2 {
		wantInt(t, "broken", s.Propagate(), 0)
	}
	back(t, s, 3)
	quiet(t, "it forces its last one", s, 1, 2, 3, -4)
	add(t, s, api.Clause{4, -2}, 1)
	wantInt(t, "broken by what the other one forces", s.Propagate(), 1)
	back(t, s, 2)
	if n := s.Propagate(); n < 0 {
		t.Fatal("the one or the other is broken:", n)
	}
	back(t, s, 1)
	quiet(t, "both have two that are open", s, 1)
	decide(t, s, -4)
	quiet(t, "the second one forces", s, 1, -2, -4)
}

// Decisions without a Propagate between them: what follows from the first ones is put at the last level, and anew where that is left.
func TestU5DecidedAheadOfPropagate(t *testing.T) {
	s := newStore(t, 8, api.Clause{-1, 5}, api.Clause{-2, 6}, api.Clause{-5, -6, 7}, api.Clause{-3, 8})
	decide(t, s, 1, 2, 3, 4)
	quiet(t, "four levels", s, 1, 2, 3, 4, 5, 6, 7, 8)
	for _, m := range s.Marks()[4:] {
		wantInt(t, "the level of what is forced", m.Level, 4)
	}
	back(t, s, 3)
	quiet(t, "three levels", s, 1, 2, 3, 5, 6, 7, 8)
	back(t, s, 2)
	quiet(t, "two levels", s, 1, 2, 5, 6, 7)
	back(t, s, 1)
	quiet(t, "one level", s, 1, 5)
	decide(t, s, 6)
	quiet(t, "another second level", s, 1, 5, 6, 7)
	back(t, s, 0)
	quiet(t, "no level", s)
}

// The same with very many levels, left one by one: what was forced is forced anew each time.
func TestU5ManyDecidedAheadOfPropagate(t *testing.T) {
	const levels = 1 << 16
	s := newStore(t, 2*levels)
	for v := 1; v <= levels; v++ {
		add(t, s, api.Clause{-v, levels + v}, v-1)
	}
	for v := 1; v <= levels; v++ {
		decide(t, s, v)
	}
	for level := levels; level > levels-300; level-- {
		wantInt(t, "Propagate", s.Propagate(), -1)
		wantInt(t, "so many marks", len(s.Marks()), 2*level)
		back(t, s, level-1)
	}
	back(t, s, 1)
	quiet(t, "one level", s, 1, levels+1)
}

// Clauses that came at the last of very many levels, which are left one by one: as long as one of them forces their literal it is true.
func TestU5LeftOneByOne(t *testing.T) {
	const levels = 1 << 17
	s := newStore(t, levels+1)
	for v := 1; v <= levels; v++ {
		decide(t, s, v)
	}
	for v := 1; v <= levels; v++ {
		add(t, s, api.Clause{-v, levels + 1, -max(v-1, 1)}, v-1)
	}
	for level := levels; level > 0; level-- {
		back(t, s, level)
		if level%1000 == 0 || level < 100 {
			wantInt(t, "Propagate", s.Propagate(), -1)
			v, _ := s.Value(levels + 1)
			wantInt(t, "the literal that all of them have", v, 1)
		}
	}
	back(t, s, 0)
	quiet(t, "no level", s)
}

// Clauses of every kind at every level, and all calls in any order.
func TestU5AllCalls(t *testing.T) {
	r := rand.New(rand.NewSource(55))
	seen := [2]int{}
	for i := range 4000 {
		s, m := busy(t, r, 10)
		for range 30 {
			step(t, r, s, m)
			wantLike(t, "behind a call", s, m)
		}
		if wantPropagate(t, r, s, m) == -1 {
			seen[0]++
		} else {
			seen[1]++
		}
		for s.Level() > 0 {
			level := r.Intn(s.Level())
			back(t, s, level)
			m.back(level)
			wantPropagate(t, r, s, m)
			wantLike(t, fmt.Sprint("the way back ", i), s, m)
		}
	}
	if seen[0] < 800 || seen[1] < 800 {
		t.Fatal("so many that are not broken, and that are:", seen)
	}
}

// Stores in which clauses are seldom broken, so that levels become many.
func TestU5ManyLevels(t *testing.T) {
	r := rand.New(rand.NewSource(56))
	deepest := 0
	for range 400 {
		m := &model{atoms: 40}
		s := newStore(t, m.atoms)
		for range 120 {
			switch r.Intn(6) {
			case 0:
				c := api.Clause{}
				for range 2 + r.Intn(5) {
					c = append(c, (1+r.Intn(m.atoms))*(2*r.Intn(2)-1))
				}
				n, _ := m.add(c)
				add(t, s, c, n)
			case 1, 2, 3:
				lit := m.open(r)
				wantErr(t, "Decide", s.Decide(lit), m.decide(lit))
			case 4:
				level := max(m.level()-1-r.Intn(3), 0)
				wantErr(t, "Back", s.Back(level), m.back(level))
			case 5:
				if wantPropagate(t, r, s, m) != -1 {
					level := max(m.level()-1, 0)
					wantErr(t, "Back", s.Back(level), m.back(level))
				}
			}
			deepest = max(deepest, m.level())
		}
		wantPropagate(t, r, s, m)
		wantLike(t, "many levels", s, m)
	}
	if deepest < 15 {
		t.Fatal("so few levels:", deepest)
	}
}
