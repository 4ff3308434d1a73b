package search_test

import (
	"fmt"
	"math"
	"math/rand"
	"slices"
	"testing"

	"fulcrum/api"
	"fulcrum/search"
)

func wantErr(t *testing.T, what string, got, want api.Errno) {
	t.Helper()
	if got != want {
		t.Fatalf("%s: the error %d, not %d", what, got, want)
	}
}

func wantInt(t *testing.T, what string, got, want int) {
	t.Helper()
	if got != want {
		t.Fatalf("%s: %d, not %d", what, got, want)
	}
}

func newSolver(t *testing.T, atoms int, theory search.Theory, l ...api.Clause) *search.Solver {
	t.Helper()
	s, e := search.New(atoms, theory)
	wantErr(t, fmt.Sprint("New of ", atoms), e, api.OK)
	wantInt(t, "Atoms", s.Atoms(), atoms)
	add(t, s, l...)
	return s
}

func add(t *testing.T, s *search.Solver, l ...api.Clause) {
	t.Helper()
	for _, c := range l {
		wantErr(t, fmt.Sprint("Add of ", c), s.Add(c), api.OK)
	}
}

func grow(t *testing.T, s *search.Solver, want int) {
	t.Helper()
	n, e := s.Grow()
	wantErr(t, "Grow", e, api.OK)
	wantInt(t, "Grow", n, want)
	wantInt(t, "Atoms behind Grow", s.Atoms(), want)
}

// noLits is ints that are no literals of so many atoms.
func noLits(atoms int) []int {
	return []int{0, atoms + 1, -atoms - 1, atoms + 2, math.MaxInt, -math.MaxInt, math.MinInt, math.MinInt + 1}
}

func lits(l ...int) []int { return l }

// truths are a truth of each atom, from place 1 on; place 0 is false.
type truths []bool

func (v truths) lit(lit int) bool {
	if lit < 0 {
		return !v[-lit]
	}
	return v[lit]
}

func (v truths) clause(c api.Clause) bool {
	return slices.ContainsFunc(c, v.lit)
}

func (v truths) clauses(l []api.Clause) bool {
	return !slices.ContainsFunc(l, func(c api.Clause) bool { return !v.clause(c) })
}

func (v truths) lits(l []int) bool {
	return !slices.ContainsFunc(l, func(lit int) bool { return !v.lit(lit) })
}

// all is every truths of so many atoms.
func all(atoms int) []truths {
	var out []truths
	for bits := range 1 << atoms {
		v := make(truths, atoms+1)
		for atom := range atoms {
			v[atom+1] = bits>>atom&1 == 1
		}
		out = append(out, v)
	}
	return out
}

// problem is what a solver has been given, beside its assumptions.
type problem struct {
	atoms   int
	clauses []api.Clause
	stands  []truths // what the theory lets stand; nil without a theory
}

// possible tells by all values whether some are as they should be.
func (p *problem) possible(assume []int) bool {
	stands := p.stands
	if stands == nil {
		stands = all(p.atoms)
	}
	return slices.ContainsFunc(stands, func(v truths) bool { return v.clauses(p.clauses) && v.lits(assume) })
}

// letsStand tells whether the theory lets values stand.
func (p *problem) letsStand(v truths) bool {
	return p.stands == nil || slices.ContainsFunc(p.stands, func(w truths) bool { return slices.Equal(v, w) })
}

// solve asks, and holds what is answered, and the steps, against the chapter's words, all but whether the Kind is the right one.
func solve(t *testing.T, s *search.Solver, p *problem, assume ...int) api.Found {
	t.Helper()
	ahead := s.Steps()
	f, e := s.Solve(assume)
	wantErr(t, fmt.Sprint("Solve of ", assume), e, api.OK)
	steps := s.Steps()
	wantBehind(t, ahead, steps)
	switch f.Kind {
	case api.SearchSat:
		wantModel(t, p, assume, f)
	case api.SearchUnsat:
		wantCore(t, assume, f, steps)
	default:
		t.Fatalf("Solve of %v: the Kind %d", assume, f.Kind)
	}
	return f
}

func wantModel(t *testing.T, p *problem, assume []int, f api.Found) {
	t.Helper()
	if len(f.Core) != 0 {
		t.Fatalf("the Core %v beside a Model", f.Core)
	}
	if len(f.Model) != p.atoms+1 || f.Model[0] {
		t.Fatalf("a Model of %d truths, the first one %v, about %d atoms", len(f.Model), f.Model[0], p.atoms)
	}
	v := truths(f.Model)
	for _, c := range p.clauses {
		if !v.clause(c) {
			t.Fatalf("the Model %v makes %v false", f.Model, c)
		}
	}
	if !v.lits(assume) || !p.letsStand(v) {
		t.Fatalf("the Model %v: the assumptions %v, or the theory", f.Model, assume)
	}
}

func wantCore(t *testing.T, assume []int, f api.Found, steps []api.Step) {
	t.Helper()
	if len(f.Model) != 0 {
		t.Fatalf("the Model %v beside a Core", f.Model)
	}
	var inOrder []int
	for _, lit := range assume {
		if slices.Contains(f.Core, lit) && !slices.Contains(inOrder, lit) {
			inOrder = append(inOrder, lit)
		}
	}
	if !slices.Equal(inOrder, f.Core) {
		t.Fatalf("the Core %v of %v", f.Core, assume)
	}
	var opposites []int
	for _, lit := range f.Core {
		opposites = append(opposites, -lit)
	}
	if len(steps) == 0 || steps[len(steps)-1].Kind != api.StepUnits || !slices.Equal(sorted(steps[len(steps)-1].Clause), sorted(opposites)) {
		t.Fatalf("the Core %v, the steps %v", f.Core, steps)
	}
}

func sorted(l []int) []int {
	l = slices.Clone(l)
	slices.Sort(l)
	return l
}

func sameStep(a, b api.Step) bool {
	return a.Kind == b.Kind && slices.Equal(a.Clause, b.Clause) && slices.Equal(a.By, b.By) && len(a.Coefs) == 0 && len(b.Coefs) == 0
}

// wantBehind: steps are only put behind others.
func wantBehind(t *testing.T, ahead, steps []api.Step) {
	t.Helper()
	if len(steps) < len(ahead) || !slices.EqualFunc(ahead, steps[:len(ahead)], sameStep) {
		t.Fatalf("the steps %v were %v", steps, ahead)
	}
}

// wantSteps: the inputs are those that were added; what follows by units does; the theory's clauses are those that it said.
func wantSteps(t *testing.T, p *problem, steps []api.Step, said []api.Clause) {
	t.Helper()
	var inputs []api.Clause
	for i, step := range steps {
		if len(step.Coefs) != 0 {
			t.Fatalf("the step %d has Coefs: %v", i, step)
		}
		switch step.Kind {
		case api.StepInput:
			inputs = append(inputs, step.Clause)
			wantInt(t, "how many steps an input is by", len(step.By), 0)
		case api.StepFarkas:
			wantInt(t, "how many steps a clause of the theory is by", len(step.By), 0)
			if !slices.ContainsFunc(said, func(c api.Clause) bool { return slices.Equal(c, step.Clause) }) {
				t.Fatalf("the step %d is of %v, which the theory did not say", i, step.Clause)
			}
		case api.StepUnits:
			if !follows(steps, i) {
				t.Fatalf("the step %d, %v, does not follow by units", i, step)
			}
		default:
			t.Fatalf("the step %d: %v", i, step)
		}
	}
	if !slices.EqualFunc(inputs, p.clauses, slices.Equal[api.Clause]) {
		t.Fatalf("the inputs are %v, not %v", inputs, p.clauses)
	}
}

// follows tells whether a step follows by units from those that it names, as layer 25 has it, and these stand ahead of it.
func follows(steps []api.Step, i int) bool {
	isTrue := map[int]bool{}
	for _, lit := range steps[i].Clause {
		if isTrue[lit] {
			return true
		}
		isTrue[-lit] = true
	}
	for changed := true; changed; {
		changed = false
		for _, n := range steps[i].By {
			if n < 0 || n >= i {
				return false
			}
			open, isBroken := left(steps[n].Clause, isTrue)
			if isBroken {
				return true
			}
			if open != 0 {
				isTrue[open] = true
				changed = true
			}
		}
	}
	return false
}

// left is the literal that a clause makes true, 0 if none; and whether all of it is false.
func left(c api.Clause, isTrue map[int]bool) (int, bool) {
	open := 0
	for _, lit := range c {
		switch {
		case isTrue[-lit] || lit == open:
		case isTrue[lit] || open != 0:
			return 0, false
		default:
			open = lit
		}
	}
	return open, open == 0
}

// someClause draws a clause, of three literals at most, or now and then of more.
func someClause(r *rand.Rand, atoms int) api.Clause {
	c := api.Clause{}
	for range 1 + r.Intn(3) + r.Intn(2)*r.Intn(3) {
		c = append(c, someLit(r, atoms))
	}
	return c
}

func someLit(r *rand.Rand, atoms int) int {
	lit := 1 + r.Intn(atoms)
	if r.Intn(2) == 0 {
		return -lit
	}
	return lit
}

func someLits(r *rand.Rand, atoms, most int) []int {
	var out []int
	for range r.Intn(most + 1) {
		out = append(out, someLit(r, atoms))
	}
	return out
}
