package bounds_test

import (
	"math"
	"math/big"
	"math/rand"
	"slices"
	"testing"

	"fulcrum/api"
	"fulcrum/bounds"
)

func TestP84Push(t *testing.T) {
	s, m := newStore(t, 1), newModel(1)
	for want := range 70 {
		wantInt(t, "Level", s.Level(), want)
		wantStore(t, "Push", s, m)
		s.Push()
		m.level++
	}
}

func TestP84WrongLevels(t *testing.T) {
	s, m := newStore(t, 1), newModel(1)
	for level := range 4 {
		for _, wrong := range []int{-1, -2, level + 1, level + 2, math.MaxInt32, math.MaxInt, math.MinInt} {
			wantErr(t, "Back", s.Back(wrong), api.ErrLevel)
			wantStore(t, "behind a wrong Back", s, m)
		}
		at := api.Delta{A: of(big.NewRat(int64(level), 3))}
		lift(t, s, 0, at, level)
		m.lift(0, in(at), level)
		wantErr(t, "Back", s.Back(0), m.back(0))
		for range level + 1 {
			s.Push()
			m.level++
		}
	}
}

// levels is a store with several Changes of one variable over several levels, both bounds, and of another one.
func levels(t *testing.T) (*bounds.Store, *model) {
	t.Helper()
	s, m := newStore(t, 3), newModel(3)
	do := func(v int, upper bool, d string, why int) {
		if upper {
			press(t, s, v, plain(d), why)
			m.press(v, in(plain(d)), why)
			return
		}
		lift(t, s, v, plain(d), why)
		m.lift(v, in(plain(d)), why)
	}
	push := func() {
		s.Push()
		m.level++
	}
	do(1, false, "-9", 1)
	do(1, true, "9", 2)
	push()
	do(1, false, "-8", 3)
	do(2, true, "4", 4)
	do(1, false, "-7", 5)
	do(1, true, "8", 6)
	push()
	push()
	do(1, true, "7", 7)
	do(1, false, "-6", 8)
	do(1, true, "6", 9)
	push()
	do(2, true, "3", 10)
	do(1, false, "6", 11)
	return s, m
}

func TestP84Back(t *testing.T) {
	for first := range 5 {
		for second := range first + 1 {
			s, m := levels(t)
			for _, to := range []int{first, second, second} {
				wantErr(t, "Back", s.Back(to), api.OK)
				wantErr(t, "the model's Back", m.back(to), api.OK)
				wantStore(t, "Back", s, m)
			}
			s.Push()
			m.level++
			lift(t, s, 0, plain("6"), 12)
			m.lift(0, in(plain("6")), 12)
			wantStore(t, "Lift behind Back", s, m)
		}
	}
}

// The same level: nothing is left.
func TestP84BackToTheSameLevel(t *testing.T) {
	s, m := levels(t)
	wantErr(t, "Back", s.Back(4), api.OK)
	wantStore(t, "Back", s, m)
}

// What stands at level 0 is never put back.
func TestP84LevelZeroStays(t *testing.T) {
	s, m := newStore(t, 1), newModel(1)
	lift(t, s, 0, plain("1"), 5)
	m.lift(0, in(plain("1")), 5)
	for range 3 {
		wantErr(t, "Back", s.Back(0), api.OK)
		wantStore(t, "Back", s, m)
	}
}

// P8.7: behind Push, any calls but Grow and Backs below that level, and Back to the level ahead of it: Limit tells what it told.
func TestP87TheWayBack(t *testing.T) {
	r := rand.New(rand.NewSource(87))
	for range 200 {
		s, m := newStore(t, 3), newModel(3)
		for range r.Intn(30) {
			step(t, r, s, m)
		}
		level, told := m.level, m.clone()
		s.Push()
		m.level++
		for range r.Intn(40) {
			if r.Intn(2) == 0 {
				s.Push()
				m.level++
			}
			stepAbove(t, r, s, m, level)
		}
		wantErr(t, "Back", s.Back(level), api.OK)
		wantStore(t, "the way back", s, told)
	}
}

// stepAbove is a step that neither grows nor goes below the level that Push began.
func stepAbove(t *testing.T, r *rand.Rand, s *bounds.Store, m *model, level int) {
	t.Helper()
	v, d, why := anyVar(r, len(m.first)), someDelta(r), someWhy(r)
	switch r.Intn(3) {
	case 0:
		got, e := s.Lift(v, d, why)
		want, code := m.lift(v, in(d), why)
		wantErr(t, "Lift", e, code)
		wantVerdict(t, "Lift", got, 0, want.Kind, want.Other)
	case 1:
		got, e := s.Press(v, d, why)
		want, code := m.press(v, in(d), why)
		wantErr(t, "Press", e, code)
		wantVerdict(t, "Press", got, 0, want.Kind, want.Other)
	case 2:
		to := level + 1 + r.Intn(m.level-level)
		wantErr(t, "Back", s.Back(to), m.back(to))
	}
}

// P8.8: no lower bound is ever above the upper one; between two Backs bounds only get tighter.
func TestP88BoundsGetTighter(t *testing.T) {
	r := rand.New(rand.NewSource(88))
	for range 100 {
		s, m := newStore(t, 2), newModel(2)
		for range 60 {
			ahead, level := s.State(), s.Level()
			step(t, r, s, m)
			for v, l := range s.State().Limits {
				if l.Lower.Has && l.Upper.Has && in(l.Lower.At).cmp(in(l.Upper.At)) > 0 {
					t.Fatalf("variable %d: %v above %v", v, in(l.Lower.At), in(l.Upper.At))
				}
				if s.Level() >= level && v < len(ahead.Limits) {
					wantTighter(t, ahead.Limits[v].Lower, l.Lower, 1)
					wantTighter(t, ahead.Limits[v].Upper, l.Upper, -1)
				}
			}
		}
	}
}

func wantTighter(t *testing.T, was, is api.Bound, sign int) {
	t.Helper()
	if was.Has && (!is.Has || in(is.At).cmp(in(was.At))*sign < 0) {
		t.Fatalf("%+v has become %+v", was, is)
	}
}

// told is bounds without their whys.
func told(s *bounds.Store) []string {
	var out []string
	for _, l := range s.State().Limits {
		for _, b := range []api.Bound{l.Lower, l.Upper} {
			if b.Has {
				out = append(out, in(b.At).String())
			} else {
				out = append(out, "none")
			}
		}
	}
	return out
}

// claim is a bound that is asserted.
type claim struct {
	v     int
	upper bool
	at    api.Delta
}

// asserted is a store with these claims asserted in their order; false, if one clashed.
func asserted(t *testing.T, claims []claim) (*bounds.Store, bool) {
	t.Helper()
	s, clashed := newStore(t, 2), false
	for why, c := range claims {
		do := s.Lift
		if c.upper {
			do = s.Press
		}
		got, e := do(c.v, c.at, why)
		wantErr(t, "a claim", e, api.OK)
		clashed = clashed || got.Kind == api.BoundClash
	}
	return s, !clashed
}

// P8.9: which bounds stand hangs on what was asserted alone, not on the order; and that none clashes neither.
func TestP89AnyOrder(t *testing.T) {
	r := rand.New(rand.NewSource(89))
	both := 0
	for range 600 {
		var claims []claim
		for range r.Intn(8) {
			c := claim{r.Intn(2), r.Intn(2) == 0, someDelta(r)}
			if r.Intn(2) == 0 { // so that often none clashes
				c.upper = ratIn(c.at.A).Sign() > 0
			}
			claims = append(claims, c)
		}
		s, ok := asserted(t, claims)
		want := told(s)
		for range 5 {
			r.Shuffle(len(claims), func(i, j int) { claims[i], claims[j] = claims[j], claims[i] })
			u, okay := asserted(t, claims)
			if ok != okay {
				t.Fatalf("%v clash in one order, and not in another one", claims)
			}
			if ok && !slices.Equal(told(u), want) {
				t.Fatalf("%v: %v, and %v", claims, want, told(u))
			}
		}
		if ok && len(claims) > 3 {
			both++
		}
	}
	if both < 50 {
		t.Fatal("so few without a clash", both)
	}
}
