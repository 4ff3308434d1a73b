package bounds_test

import (
	"math"
	"testing"

	"fulcrum/api"
	"fulcrum/bounds"
)

func TestP81New(t *testing.T) {
	for _, vars := range []int{0, 1, 2, 7, 300} {
		wantStore(t, "New", newStore(t, vars), newModel(vars))
	}
	for _, vars := range []int{-1, -2, 65537, math.MaxInt32, math.MaxInt, math.MinInt} {
		s, e := bounds.New(vars)
		wantErr(t, "New", e, api.ErrArg)
		if s != nil {
			t.Fatalf("New(%d): a store beside an error", vars)
		}
	}
}

func TestP81NewOfMaxVars(t *testing.T) {
	s := newStore(t, 65536)
	wantInt(t, "Vars", s.Vars(), 65536)
	wantInt(t, "Fits", s.Fits(nil), -1)
	lift(t, s, 65535, plain("1"), 3)
	wantInt(t, "Fits", s.Fits(nil), 65535)
	l, e := s.Limit(65535)
	wantErr(t, "Limit", e, api.OK)
	wantLimit(t, "Limit", l, &known{in(plain("1")), 3}, nil)
	state := s.State()
	wantInt(t, "the state's Limits", len(state.Limits), 65536)
	_, e = s.Limit(65536)
	wantErr(t, "Limit", e, api.ErrVar)
}

func TestP82Grow(t *testing.T) {
	s, m := newStore(t, 0), newModel(0)
	for want := range 9 {
		v, e := s.Grow()
		wantErr(t, "Grow", e, api.OK)
		wantInt(t, "Grow", v, want)
		m.grow()
		wantStore(t, "Grow", s, m)
	}
}

func TestP82GrowAtMaxVars(t *testing.T) {
	s := newStore(t, 65535)
	lift(t, s, 65534, plain("2"), 1)
	v, e := s.Grow()
	wantErr(t, "Grow", e, api.OK)
	wantInt(t, "Grow", v, 65535)
	for range 2 {
		v, e = s.Grow()
		wantErr(t, "Grow of a full store", e, api.ErrFull)
		wantInt(t, "Grow of a full store", v, 0)
		wantInt(t, "Vars", s.Vars(), 65536)
	}
	l, e := s.Limit(65535)
	wantErr(t, "Limit", e, api.OK)
	wantLimit(t, "Limit", l, nil, nil)
	_, e = s.Limit(65536)
	wantErr(t, "Limit", e, api.ErrVar)
	s = newStore(t, 65536)
	_, e = s.Grow()
	wantErr(t, "Grow of a full store", e, api.ErrFull)
}

// A variable that a level brought stays when the level is left; its bounds of that level do not.
func TestP82GrownVariablesStay(t *testing.T) {
	s, m := newStore(t, 1), newModel(1)
	s.Push()
	s.Push()
	v, e := s.Grow()
	wantErr(t, "Grow", e, api.OK)
	wantInt(t, "Grow", v, 1)
	lift(t, s, 1, plain("5"), 2)
	press(t, s, 0, plain("5"), 2)
	wantErr(t, "Back", s.Back(0), api.OK)
	m.grow()
	wantStore(t, "behind Back", s, m)
	lift(t, s, 1, plain("-5"), 4)
	m.lift(1, in(plain("-5")), 4)
	wantStore(t, "behind Lift", s, m)
}

func TestP82Limit(t *testing.T) {
	s := newStore(t, 3)
	press(t, s, 1, api.Delta{A: api.Rat{Num: api.Int{Neg: true, Abs: api.Nat{6, 0}}, Den: api.Nat{4, 0, 0}}, B: zeros()[6]}, -3)
	l, e := s.Limit(1)
	wantErr(t, "Limit", e, api.OK)
	wantLimit(t, "Limit", l, nil, &known{in(plain("-3/2")), -3})
	lift(t, s, 1, api.Delta{A: num("-7/3"), B: api.Rat{Num: api.Int{Neg: true, Abs: api.Nat{9}}, Den: api.Nat{3, 0}}}, math.MinInt)
	l, e = s.Limit(1)
	wantErr(t, "Limit", e, api.OK)
	wantLimit(t, "Limit", l, &known{in(pair("-7/3", "-3")), math.MinInt}, &known{in(plain("-3/2")), -3})
	for _, v := range []int{0, 2} {
		l, e = s.Limit(v)
		wantErr(t, "Limit", e, api.OK)
		wantLimit(t, "Limit", l, nil, nil)
	}
}

// Of a variable that is none each call answers ErrVar, nothing beside it, and changes nothing.
func TestNoSuchVariable(t *testing.T) {
	for _, vars := range []int{0, 1, 3} {
		s, m := newStore(t, vars), newModel(vars)
		s.Push()
		m.level++
		for _, v := range far(vars) {
			wantNothing(t, s, v, api.ErrVar)
		}
		wantStore(t, "behind wrong variables", s, m)
	}
}

// wantNothing asks each call of a variable for an error and zero values.
func wantNothing(t *testing.T, s *bounds.Store, v int, want api.Errno) {
	t.Helper()
	l, e := s.Limit(v)
	wantErr(t, "Limit", e, want)
	wantLimit(t, "Limit", l, nil, nil)
	got, e := s.Lift(v, plain("1"), 7)
	wantErr(t, "Lift", e, want)
	wantVerdict(t, "Lift", got, api.OK, 0, 0)
	got, e = s.Press(v, plain("1"), 7)
	wantErr(t, "Press", e, want)
	wantVerdict(t, "Press", got, api.OK, 0, 0)
	fixed, e := s.Fixed(v)
	wantErr(t, "Fixed", e, want)
	inside, e := s.Inside(v, plain("0"))
	wantErr(t, "Inside", e, want)
	if fixed || inside {
		t.Fatal("true beside an error")
	}
}

// A store that New and Load did not give.
func TestNobodysStore(t *testing.T) {
	var none *bounds.Store
	for _, s := range []*bounds.Store{none, {}, new(bounds.Store)} {
		for range 2 { // as none of the calls changes anything
			wantInt(t, "Vars", s.Vars(), 0)
			wantInt(t, "Level", s.Level(), 0)
			wantInt(t, "Fits", s.Fits(nil), -1)
			wantInt(t, "Fits", s.Fits([]api.Delta{plain("1"), {}}), -1)
			wantState(t, "State", s.State(), newModel(0))
			for _, v := range append(far(0), 0, 1) {
				wantNothing(t, s, v, api.ErrArg)
				wantErr(t, "Back", s.Back(v), api.ErrArg)
			}
			v, e := s.Grow()
			wantErr(t, "Grow", e, api.ErrArg)
			wantInt(t, "Grow", v, 0)
			s.Push()
		}
	}
}

// A store without variables is one that New gave all the same.
func TestStoreWithoutVariables(t *testing.T) {
	for _, s := range []*bounds.Store{newStore(t, 0), loaded(t, api.Bounds{})} {
		s.Push()
		wantInt(t, "Level", s.Level(), 1)
		wantErr(t, "Back", s.Back(0), api.OK)
		wantErr(t, "Back", s.Back(1), api.ErrLevel)
		wantNothing(t, s, 0, api.ErrVar)
		v, e := s.Grow()
		wantErr(t, "Grow", e, api.OK)
		wantInt(t, "Grow", v, 0)
	}
}
