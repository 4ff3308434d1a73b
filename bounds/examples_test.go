package bounds_test

import (
	"testing"

	"fulcrum/api"
	"fulcrum/bounds"
	"fulcrum/delta"
	"fulcrum/ratio"
)

// The three examples of the chapter, as they stand there.

func whole64(n int64) api.Delta { return delta.Of(ratio.Whole(n)) }

// first does example 1.
func first(t *testing.T) *bounds.Store {
	t.Helper()
	s := newStore(t, 2)
	got, e := s.Lift(0, whole64(1), 7)
	wantVerdict(t, "Lift", got, e, api.BoundMoved, 0)
	got, e = s.Lift(0, whole64(1), 8)
	wantVerdict(t, "Lift", got, e, api.BoundKept, 0)
	got, e = s.Press(0, whole64(0), 9)
	wantVerdict(t, "Press", got, e, api.BoundClash, 7)
	got, e = s.Press(0, whole64(1), 9)
	wantVerdict(t, "Press", got, e, api.BoundMoved, 0)
	fixed, e := s.Fixed(0)
	wantBool(t, "Fixed", fixed, e, true)
	_, e = s.Lift(2, whole64(0), 0)
	wantErr(t, "Lift", e, api.ErrVar)
	return s
}

func TestExample1(t *testing.T) {
	first(t)
}

func TestExample2(t *testing.T) {
	s := first(t)
	above := delta.Add(whole64(3), api.Delta{B: ratio.Whole(1)})
	s.Push()
	got, e := s.Lift(1, whole64(3), 4)
	wantVerdict(t, "Lift", got, e, api.BoundMoved, 0)
	got, e = s.Lift(1, above, 5)
	wantVerdict(t, "Lift", got, e, api.BoundMoved, 0)
	wantInt(t, "Fits", s.Fits([]api.Delta{whole64(1), whole64(3)}), 1)
	wantInt(t, "Fits", s.Fits([]api.Delta{whole64(1), above}), -1)
	wantErr(t, "Back", s.Back(0), api.OK)
	l, e := s.Limit(1)
	wantErr(t, "Limit", e, api.OK)
	wantLimit(t, "Limit", l, nil, nil)
	wantErr(t, "Back", s.Back(1), api.ErrLevel)
}

func TestExample3(t *testing.T) {
	one := in(plain("1"))
	m := newModel(2)
	m.moves = []moved{{0, false, 0, &known{one, 7}}, {0, true, 0, &known{one, 9}}}
	wantState(t, "State", first(t).State(), m)
}
