package units_test

import (
	"fmt"
	"math"
	"math/rand"
	"slices"
	"testing"

	"fulcrum/api"
	"fulcrum/units"
)

func TestU1New(t *testing.T) {
	for _, atoms := range []int{0, 1, 5, api.MaxTerms - 1, api.MaxTerms} {
		s := newStore(t, atoms)
		what := fmt.Sprint("New of ", atoms)
		wantInt(t, what, s.Atoms(), atoms)
		wantInt(t, what, s.Level(), 0)
		wantClauses(t, what, s.Clauses())
		quiet(t, what, s)
	}
	wantNoNew(t, api.ErrArg, -1, -2, -api.MaxTerms, math.MinInt32, math.MinInt)
	wantNoNew(t, api.ErrFull, api.MaxTerms+1, api.MaxTerms+2, math.MaxInt32, 1<<32, math.MaxInt)
}

func wantNoNew(t *testing.T, want api.Errno, atoms ...int) {
	t.Helper()
	for _, n := range atoms {
		s, e := units.New(n)
		wantErr(t, fmt.Sprint("New of ", n), e, want)
		if s != nil {
			t.Fatal("a store beside an error")
		}
		wantNoLoad(t, want, n, nil)
	}
}

func wantNoLoad(t *testing.T, want api.Errno, atoms int, l []api.Clause, marks ...api.Mark) {
	t.Helper()
	s, e := units.Load(atoms, l, marks)
	if e != want {
		t.Fatalf("Load of %d atoms, %d clauses and the marks %v: the error %d, not %d", atoms, len(l), marks, e, want)
	}
	if s != nil {
		t.Fatal("a store beside an error")
	}
}

func TestU1NewWithoutAtoms(t *testing.T) {
	s := newStore(t, 0)
	wantErr(t, "Decide", s.Decide(1), api.ErrArg)
	_, e := s.Add(api.Clause{1})
	wantErr(t, "Add", e, api.ErrClause)
	_, e = s.Value(1)
	wantErr(t, "Value", e, api.ErrVar)
	wantErr(t, "Back", s.Back(0), api.OK)
	add(t, s, nil, 0)
	wantInt(t, "Propagate", s.Propagate(), 0)
}

func TestU1Grow(t *testing.T) {
	s := newStore(t, 0)
	for atom := 1; atom <= 5; atom++ {
		v, e := s.Value(atom)
		wantErr(t, "Value ahead of Grow", e, api.ErrVar)
		wantInt(t, "Value ahead of Grow", v, 0)
		got, e := s.Grow()
		wantErr(t, "Grow", e, api.OK)
		wantInt(t, "Grow", got, atom)
		wantInt(t, "Atoms", s.Atoms(), atom)
		v, e = s.Value(atom)
		wantErr(t, "Value behind Grow", e, api.OK)
		wantInt(t, "Value behind Grow", v, 0)
		add(t, s, api.Clause{-atom, max(atom-1, 1)}, atom-1)
	}
	decide(t, s, 5)
	quiet(t, "atoms that came later", s, 1, 2, 3, 4, 5)
}

// An atom may come at any level, and between Propagates.
func TestU1GrowAtALevel(t *testing.T) {
	s := newStore(t, 1)
	decide(t, s, -1)
	quiet(t, "one atom", s, -1)
	s.Grow()
	wantMarks(t, "behind Grow", s.Marks(), at(-1, 1, -1))
	add(t, s, api.Clause{1, -2}, 0)
	quiet(t, "two atoms", s, -1, -2)
	back(t, s, 0)
	decide(t, s, 2)
	quiet(t, "two atoms", s, 1, 2)
}

func TestU1GrowToTheLimit(t *testing.T) {
	s := newStore(t, api.MaxTerms-1)
	atom, e := s.Grow()
	wantErr(t, "Grow", e, api.OK)
	wantInt(t, "Grow", atom, api.MaxTerms)
	for range 3 {
		atom, e = s.Grow()
		wantErr(t, "Grow beyond the limit", e, api.ErrFull)
		wantInt(t, "Grow beyond the limit", atom, 0)
		wantInt(t, "Atoms", s.Atoms(), api.MaxTerms)
	}
	add(t, s, api.Clause{-api.MaxTerms, 1}, 0)
	decide(t, s, api.MaxTerms)
	quiet(t, "the last atom", s, 1, api.MaxTerms)
	_, e = s.Add(api.Clause{api.MaxTerms + 1})
	wantErr(t, "Add", e, api.ErrClause)
	_, e = newStore(t, api.MaxTerms).Grow()
	wantErr(t, "Grow of a full store", e, api.ErrFull)
}

func TestU1Load(t *testing.T) {
	l := []api.Clause{{-1, 2}, {3}, {-2, -4, -4}, {}, {5, -5}}
	marks := []api.Mark{at(3, 0, 1), at(1, 1, -1), at(2, 1, 0), at(-5, 2, -1), at(-4, 2, 2)}
	for n := range len(marks) + 1 { // what stands ahead of a mark may be too
		s := loaded(t, 5, l, marks[:n]...)
		wantLike(t, "loaded", s, &model{5, l, marks[:n]})
		wantInt(t, "Propagate", s.Propagate(), 3)
	}
}

func TestU1LoadLimits(t *testing.T) {
	for _, atoms := range []int{0, 1, api.MaxTerms} {
		wantInt(t, "Atoms", loaded(t, atoms, nil).Atoms(), atoms)
	}
	decide(t, loaded(t, api.MaxTerms, nil, at(1, 1, -1)), api.MaxTerms)
	many := make([]api.Clause, api.MaxClauses+1)
	wantNoLoad(t, api.ErrFull, 1, many)
	s := loaded(t, 1, many[1:])
	wantInt(t, "so many clauses", len(s.Clauses()), api.MaxClauses)
	_, e := s.Add(nil)
	wantErr(t, "Add to so many", e, api.ErrFull)
}

// The errors in their order, each beside those that come later.
func TestU1LoadOrderOfErrors(t *testing.T) {
	many := make([]api.Clause, api.MaxClauses+1)
	many[0] = api.Clause{0}
	bad := at(0, 0, 0)
	wantNoLoad(t, api.ErrArg, -1, many, bad)
	wantNoLoad(t, api.ErrFull, api.MaxTerms+1, many, bad)
	wantNoLoad(t, api.ErrFull, api.MaxTerms+1, many[:1], bad)
	wantNoLoad(t, api.ErrFull, 1, many, bad)
	wantNoLoad(t, api.ErrClause, 1, many[:api.MaxClauses], bad)
	wantNoLoad(t, api.ErrTrail, 1, many[1:], bad)
}

func TestU1LoadNoLiterals(t *testing.T) {
	for _, lit := range noLits(3) {
		for _, c := range []api.Clause{{lit}, {1, lit}, {lit, -3}, {1, lit, 2}} {
			wantNoLoad(t, api.ErrClause, 3, []api.Clause{{1, 2}, c})
			wantNoLoad(t, api.ErrClause, 3, []api.Clause{c, {}})
		}
		wantNoLoad(t, api.ErrTrail, 3, []api.Clause{{1}}, at(lit, 1, -1))
		wantNoLoad(t, api.ErrTrail, 3, []api.Clause{{1}}, at(lit, 0, 0))
		wantNoLoad(t, api.ErrTrail, 3, []api.Clause{{1}}, at(2, 1, -1), at(lit, 2, -1))
	}
}

func TestU1LoadMarksThatMayNotBe(t *testing.T) {
	l := []api.Clause{{-1, 2}, {3}, {-2, -4, -4}, {}, {5, -5}, {-1, 4, 5}, {1, 1}}
	one, two := at(1, 1, -1), at(2, 1, 0)
	for what, marks := range map[string][]api.Mark{
		"a literal twice":                         {one, at(1, 2, -1)},
		"a literal twice, the other one forced":   {one, two, at(2, 2, -1)},
		"a literal twice, the second one forced":  {at(3, 1, -1), at(3, 1, 1)},
		"a literal and its opposite":              {one, at(-1, 2, -1)},
		"decided at the level ahead":              {at(1, 0, -1)},
		"decided two levels above":                {at(1, 2, -1)},
		"decided at the level ahead, later":       {one, at(5, 1, -1)},
		"decided two levels above, later":         {one, at(5, 3, -1)},
		"decided at a lower level":                {one, at(5, 2, -1), at(4, 1, -1)},
		"a level below 0":                         {at(1, -1, -1)},
		"the greatest level":                      {at(1, math.MaxInt, -1)},
		"the least level":                         {at(1, math.MinInt, -1)},
		"forced a level above":                    {at(3, 1, 1)},
		"forced a level below 0":                  {at(3, -1, 1)},
		"forced a level above, later":             {one, at(2, 2, 0)},
		"forced at the level of what forces it":   {one, at(5, 2, -1), two},
		"forced at a lower level":                 {one, at(2, 0, 0)},
		"a reason behind the clauses":             {at(3, 0, 7)},
		"a reason far behind the clauses":         {at(3, 0, math.MaxInt)},
		"a reason below -1":                       {at(3, 0, -2)},
		"a reason below -1, a level above":        {at(3, 1, -2)},
		"the least int as a reason":               {at(3, 1, math.MinInt)},
		"a reason without the literal":            {at(2, 0, 1)},
		"a reason with its opposite":              {at(-3, 0, 1)},
		"the empty clause as a reason":            {at(3, 0, 3)},
		"another literal open":                    {at(2, 0, 0)},
		"another literal open, one false":         {one, at(4, 1, 5)},
		"another literal true":                    {at(-1, 1, -1), at(2, 1, 0)},
		"false behind it alone":                   {at(2, 0, 0), at(1, 1, -1)},
		"the literal's opposite in the reason":    {at(5, 0, 4)},
		"what is forced is forced once more":      {one, two, two},
		"right, but for the last one":             {at(3, 0, 1), one, two, at(-4, 1, 2), at(5, 1, 5), at(6, 2, -1)},
		"right, but for the first one":            {at(3, 0, 0), one, two},
		"a literal twice in the reason, one open": {at(-4, 0, 2)},
	} {
		if mayBe(5, l, marks) {
			t.Fatalf("%s: by the chapter's words they may be", what)
		}
		wantNoLoad(t, api.ErrTrail, 5, l, marks...)
	}
	loaded(t, 5, l, at(1, 0, 6), at(2, 0, 0), at(-4, 0, 2), at(5, 0, 5), at(3, 1, -1))
}

// Marks that were drawn and then changed in one place: some may be, some may not.
func TestU1LoadSomeMarks(t *testing.T) {
	r := rand.New(rand.NewSource(1))
	may, not := 0, 0
	for range 20000 {
		m := &model{atoms: 1 + r.Intn(5)}
		for range r.Intn(8) {
			m.add(someClause(r, m.atoms))
		}
		for range r.Intn(6) {
			if r.Intn(2) == 0 {
				m.decide(m.open(r))
			} else if len(m.clauses) > 0 {
				n := r.Intn(len(m.clauses))
				for _, lit := range m.clauses[n] {
					m.force(lit, n)
				}
			}
		}
		marks := slices.Clone(m.marks)
		if len(marks) > 0 && r.Intn(4) > 0 {
			mark := &marks[r.Intn(len(marks))]
			switch r.Intn(4) {
			case 0:
				mark.Lit = someLit(r, m.atoms)
			case 1:
				mark.Level += r.Intn(3) - 1
			case 2:
				mark.Reason = r.Intn(len(m.clauses)+4) - 2
			case 3:
				i, j := r.Intn(len(marks)), r.Intn(len(marks))
				marks[i], marks[j] = marks[j], marks[i]
			}
		}
		if !mayBe(m.atoms, m.clauses, marks) {
			not++
			wantNoLoad(t, api.ErrTrail, m.atoms, m.clauses, marks...)
			continue
		}
		may++
		m.marks = marks
		s := loaded(t, m.atoms, m.clauses, marks...)
		wantLike(t, "loaded", s, m)
		for range 12 {
			step(t, r, s, m)
		}
		wantLike(t, "loaded and gone on with", s, m)
	}
	if may < 5000 || not < 5000 {
		t.Fatal("so many may be, and may not:", may, not)
	}
}
