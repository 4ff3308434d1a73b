package units_test

import (
	"testing"

	"fulcrum/api"
	"fulcrum/units"
)

func firstExample(t *testing.T) *units.Store {
	t.Helper()
	return newStore(t, 3, api.Clause{1, 2}, api.Clause{-1, 3}, api.Clause{-2, 3})
}

func TestExample1(t *testing.T) {
	s := firstExample(t)
	quiet(t, "nothing to do", s)
	decide(t, s, -3)
	wantInt(t, "Level", s.Level(), 1)
	n, first := s.Propagate(), at(-3, 1, -1)
	ways := [][]api.Mark{ // the clause that is broken is the one that forced nothing
		{first, at(-2, 1, 2), at(1, 1, 0)},
		{first, at(-1, 1, 1), at(2, 1, 0)},
		{first, at(-1, 1, 1), at(-2, 1, 2)},
		{first, at(-2, 1, 2), at(-1, 1, 1)},
	}
	broken := []int{1, 2, 0, 0}
	for i, way := range ways {
		marks := s.Marks()
		if n == broken[i] && len(marks) == 3 && marks[0] == way[0] && marks[1] == way[1] && marks[2] == way[2] {
			return
		}
	}
	t.Fatal("Propagate:", n, s.Marks())
}

func TestExample2(t *testing.T) {
	s := newStore(t, 1, api.Clause{})
	wantInt(t, "the empty clause", s.Propagate(), 0)

	s = newStore(t, 1, api.Clause{1, 1})
	quiet(t, "a literal twice", s, 1)
	wantMarks(t, "a literal twice", s.Marks(), at(1, 0, 0))

	for _, lit := range []int{1, -1} {
		s = newStore(t, 1, api.Clause{1, -1})
		quiet(t, "a literal and its opposite", s)
		decide(t, s, lit)
		quiet(t, "a literal and its opposite", s, lit)
	}
}

func TestExample3(t *testing.T) {
	s := firstExample(t)
	decide(t, s, -3)
	if s.Propagate() == -1 {
		t.Fatal("no clause is broken")
	}
	back(t, s, 0)
	decide(t, s, 3)
	v, e := s.Value(3)
	wantErr(t, "Value", e, api.OK)
	wantInt(t, "Value", v, 1)
	wantErr(t, "Decide once more", s.Decide(3), api.ErrTrail)
	wantErr(t, "Decide what is no literal", s.Decide(4), api.ErrArg)
	wantErr(t, "Force by a true clause", s.Force(1, 1), api.ErrTrail)
}
