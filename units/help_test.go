package units_test

import (
	"fmt"
	"math"
	"math/rand"
	"slices"
	"testing"

	"fulcrum/api"
	"fulcrum/units"
)

func wantErr(t *testing.T, what string, got, want api.Errno) {
	t.Helper()
	if got != want {
		t.Fatalf("%s: the error %d, not %d", what, got, want)
	}
}

func wantInt(t *testing.T, what string, got, want int) {
	t.Helper()
	if got != want {
		t.Fatalf("%s: %d, not %d", what, got, want)
	}
}

// wantClauses: the clauses as they stand, nil and the empty list being the same.
func wantClauses(t *testing.T, what string, got []api.Clause, want ...api.Clause) {
	t.Helper()
	if !slices.EqualFunc(got, want, slices.Equal[api.Clause]) {
		t.Fatalf("%s: the clauses %v, not %v", what, got, want)
	}
}

func wantMarks(t *testing.T, what string, got []api.Mark, want ...api.Mark) {
	t.Helper()
	if !slices.Equal(got, want) {
		t.Fatalf("%s: the marks %v, not %v", what, got, want)
	}
}

// wantLits: what was made true, in whichever order.
func wantLits(t *testing.T, what string, s *units.Store, want ...int) {
	t.Helper()
	got := trueLits(s.Marks())
	slices.Sort(want)
	if !slices.Equal(got, want) {
		t.Fatalf("%s: true are %v, not %v", what, got, want)
	}
}

// trueLits is the literals of marks, by number.
func trueLits(marks []api.Mark) []int {
	var out []int
	for _, m := range marks {
		out = append(out, m.Lit)
	}
	slices.Sort(out)
	return out
}

func newStore(t *testing.T, atoms int, l ...api.Clause) *units.Store {
	t.Helper()
	s, e := units.New(atoms)
	wantErr(t, fmt.Sprint("New of ", atoms), e, api.OK)
	for i, c := range l {
		add(t, s, c, i)
	}
	return s
}

func loaded(t *testing.T, atoms int, l []api.Clause, marks ...api.Mark) *units.Store {
	t.Helper()
	s, e := units.Load(atoms, l, marks)
	wantErr(t, "Load", e, api.OK)
	return s
}

func add(t *testing.T, s *units.Store, c api.Clause, want int) {
	t.Helper()
	n, e := s.Add(c)
	wantErr(t, fmt.Sprint("Add of ", c), e, api.OK)
	wantInt(t, fmt.Sprint("Add of ", c), n, want)
}

func decide(t *testing.T, s *units.Store, lits ...int) {
	t.Helper()
	for _, lit := range lits {
		wantErr(t, fmt.Sprint("Decide of ", lit), s.Decide(lit), api.OK)
	}
}

func force(t *testing.T, s *units.Store, lit, clause int) {
	t.Helper()
	wantErr(t, fmt.Sprint("Force of ", lit, " by ", clause), s.Force(lit, clause), api.OK)
}

func back(t *testing.T, s *units.Store, level int) {
	t.Helper()
	wantErr(t, fmt.Sprint("Back to ", level), s.Back(level), api.OK)
}

// quiet: Propagate tells that no clause is broken, and then these literals are true.
func quiet(t *testing.T, what string, s *units.Store, want ...int) {
	t.Helper()
	wantInt(t, what+": Propagate", s.Propagate(), -1)
	wantLits(t, what, s, want...)
}

func at(lit, level, reason int) api.Mark {
	return api.Mark{Lit: lit, Level: level, Reason: reason}
}

// noLits is ints that are no literals of so many atoms.
func noLits(atoms int) []int {
	return []int{0, atoms + 1, -atoms - 1, atoms + 1000, math.MaxInt, -math.MaxInt, math.MinInt, math.MaxInt32, math.MinInt32, 1 << 32, -1 << 32}
}

// model is a store as the chapter says it: lists that are gone over anew for all that is asked.
type model struct {
	atoms   int
	clauses []api.Clause
	marks   []api.Mark
}

func (m *model) clone() *model {
	return &model{m.atoms, slices.Clone(m.clauses), slices.Clone(m.marks)}
}

func (m *model) isLit(lit int) bool {
	return lit != math.MinInt && lit != 0 && max(lit, -lit) <= m.atoms
}

// value is 1, if a mark has the literal, -1, if one has its opposite, else 0.
func (m *model) value(lit int) int {
	for _, mark := range m.marks {
		switch mark.Lit {
		case lit:
			return 1
		case -lit:
			return -1
		}
	}
	return 0
}

func (m *model) level() int {
	if len(m.marks) == 0 {
		return 0
	}
	return m.marks[len(m.marks)-1].Level
}

func (m *model) isBroken(c api.Clause) bool {
	return !slices.ContainsFunc(c, func(lit int) bool { return m.value(lit) >= 0 })
}

func (m *model) forces(c api.Clause, lit int) bool {
	return slices.Contains(c, lit) && m.value(lit) == 0 && !slices.ContainsFunc(c, func(other int) bool { return other != lit && m.value(other) >= 0 })
}

func (m *model) add(c api.Clause) (int, api.Errno) {
	if slices.ContainsFunc(c, func(lit int) bool { return !m.isLit(lit) }) {
		return 0, api.ErrClause
	}
	m.clauses = append(m.clauses, slices.Clone(c))
	return len(m.clauses) - 1, api.OK
}

func (m *model) decide(lit int) api.Errno {
	switch {
	case !m.isLit(lit):
		return api.ErrArg
	case m.value(lit) != 0:
		return api.ErrTrail
	}
	m.marks = append(m.marks, at(lit, m.level()+1, -1))
	return api.OK
}

func (m *model) force(lit, clause int) api.Errno {
	switch {
	case !m.isLit(lit):
		return api.ErrArg
	case clause < 0 || clause >= len(m.clauses):
		return api.ErrClause
	case !m.forces(m.clauses[clause], lit):
		return api.ErrTrail
	}
	m.marks = append(m.marks, at(lit, m.level(), clause))
	return api.OK
}

func (m *model) back(level int) api.Errno {
	if level < 0 || level > m.level() {
		return api.ErrLevel
	}
	m.marks = slices.DeleteFunc(m.marks, func(mark api.Mark) bool { return mark.Level > level })
	return api.OK
}

// fixpoint goes over all clauses, in an order of its own, till none is broken and none forces anything: false, if one is broken.
func (m *model) fixpoint(r *rand.Rand) bool {
	for again := true; again; {
		again = false
		for _, n := range r.Perm(len(m.clauses)) {
			if m.isBroken(m.clauses[n]) {
				return false
			}
			for _, lit := range m.clauses[n] {
				again = m.force(lit, n) == api.OK || again
			}
		}
	}
	return true
}

// mayBe: the words of the chapter, mark by mark.
func mayBe(atoms int, l []api.Clause, marks []api.Mark) bool {
	level := 0
	for i, mark := range marks {
		ahead := model{atoms, l, marks[:i]}
		if !ahead.isLit(mark.Lit) || ahead.value(mark.Lit) != 0 {
			return false
		}
		if mark.Reason == -1 {
			level++
		} else if mark.Reason < 0 || mark.Reason >= len(l) || !ahead.forces(l[mark.Reason], mark.Lit) {
			return false
		}
		if mark.Level != level {
			return false
		}
	}
	return true
}

// wantPropagate lets a store propagate, holds what it did against the chapter's words, and lets the model take over which way it went.
func wantPropagate(t *testing.T, r *rand.Rand, s *units.Store, m *model) int {
	t.Helper()
	n, marks := s.Propagate(), s.Marks()
	if len(marks) < len(m.marks) {
		t.Fatalf("Propagate took marks off: %v, then %v", m.marks, marks)
	}
	wantMarks(t, "ahead of Propagate", marks[:len(m.marks)], m.marks...)
	fix := m.clone()
	for _, mark := range marks[len(m.marks):] {
		wantErr(t, fmt.Sprintf("Propagate puts %v behind %v", mark, m.marks), m.force(mark.Lit, mark.Reason), api.OK)
	}
	wantMarks(t, "behind Propagate", marks, m.marks...)
	if whole := fix.fixpoint(r); whole != (n == -1) {
		t.Fatalf("Propagate: %d, but a fixpoint: %v; the clauses %v, the marks %v", n, whole, m.clauses, marks)
	}
	if n == -1 {
		if got, want := trueLits(marks), trueLits(fix.marks); !slices.Equal(got, want) {
			t.Fatalf("behind Propagate %v are true, not %v", got, want)
		}
		return n
	}
	if n < 0 || n >= len(m.clauses) || !m.isBroken(m.clauses[n]) {
		t.Fatalf("Propagate: %d; the clauses %v, the marks %v", n, m.clauses, marks)
	}
	return n
}

// wantLike: all that a store tells is what the model is.
func wantLike(t *testing.T, what string, s *units.Store, m *model) {
	t.Helper()
	wantInt(t, what+": Atoms", s.Atoms(), m.atoms)
	wantInt(t, what+": Level", s.Level(), m.level())
	wantClauses(t, what, s.Clauses(), m.clauses...)
	wantMarks(t, what, s.Marks(), m.marks...)
	for atom := 1; atom <= m.atoms; atom++ {
		v, e := s.Value(atom)
		wantErr(t, what+": Value", e, api.OK)
		wantInt(t, fmt.Sprint(what, ": Value of ", atom), v, m.value(atom))
	}
}

// someLit is a literal, or something that is none, but near.
func someLit(r *rand.Rand, atoms int) int {
	return r.Intn(2*atoms+3) - atoms - 1
}

// someClause has literals alone, some more than once, some with their opposites.
func someClause(r *rand.Rand, atoms int) api.Clause {
	long := 1 + r.Intn(4)
	if r.Intn(40) == 0 {
		long = 0
	}
	var out api.Clause
	for range long {
		lit := 1 + r.Intn(atoms)
		if r.Intn(2) == 0 {
			lit = -lit
		}
		out = append(out, lit)
	}
	if long > 0 && r.Intn(6) == 0 {
		out = append(out, out[r.Intn(long)])
	}
	if long > 0 && r.Intn(12) == 0 {
		out = append(out, -out[r.Intn(long)])
	}
	return out
}

// open is a literal that is open, or 0.
func (m *model) open(r *rand.Rand) int {
	for _, i := range r.Perm(m.atoms) {
		if m.value(i+1) == 0 {
			return (i + 1) * (2*r.Intn(2) - 1)
		}
	}
	return 0
}

// step is one call of a store and of its model, be it one that answers an error.
func step(t *testing.T, r *rand.Rand, s *units.Store, m *model) {
	t.Helper()
	switch r.Intn(16) {
	case 0, 1:
		c := someClause(r, m.atoms)
		if r.Intn(8) == 0 {
			c = append(c, someLit(r, m.atoms))
		}
		n, e := s.Add(c)
		o, f := m.add(c)
		wantErr(t, fmt.Sprint("Add of ", c), e, f)
		wantInt(t, fmt.Sprint("Add of ", c), n, o)
	case 2:
		lit := someLit(r, m.atoms)
		wantErr(t, fmt.Sprint("Decide of ", lit), s.Decide(lit), m.decide(lit))
	case 3, 4, 5, 6:
		lit := m.open(r)
		wantErr(t, fmt.Sprint("Decide of ", lit), s.Decide(lit), m.decide(lit))
	case 7, 8:
		lit, n := someLit(r, m.atoms), r.Intn(len(m.clauses)+3)-1
		if n >= 0 && n < len(m.clauses) && len(m.clauses[n]) > 0 && r.Intn(4) > 0 {
			lit = m.clauses[n][r.Intn(len(m.clauses[n]))]
		}
		wantErr(t, fmt.Sprint("Force of ", lit, " by ", n), s.Force(lit, n), m.force(lit, n))
	case 9, 10, 11:
		level := r.Intn(m.level()+3) - 1
		wantErr(t, fmt.Sprint("Back to ", level), s.Back(level), m.back(level))
	case 12:
		if r.Intn(10) == 0 {
			atom, e := s.Grow()
			m.atoms++
			wantErr(t, "Grow", e, api.OK)
			wantInt(t, "Grow", atom, m.atoms)
		}
	default:
		wantPropagate(t, r, s, m)
	}
}

// busy is a store behind so many calls, and its model.
func busy(t *testing.T, r *rand.Rand, calls int) (*units.Store, *model) {
	t.Helper()
	m := &model{atoms: 1 + r.Intn(12)}
	s := newStore(t, m.atoms)
	for range r.Intn(2 * m.atoms) {
		c := someClause(r, m.atoms)
		n, _ := m.add(c)
		add(t, s, c, n)
	}
	for range calls {
		step(t, r, s, m)
	}
	return s, m
}
