package bounds_test

import (
	"fmt"
	"math"
	"math/rand"
	"testing"

	"fulcrum/api"
	"fulcrum/bounds"
)

// near is a bound, and numbers just below and just above it: apart by an ordinary amount, by a very small one, and by the delta's part alone.
type near struct {
	at           api.Delta
	below, above []api.Delta
}

func nears() []near {
	tiny := "1/1000000000000000000000000000000"
	return []near{
		{plain("1"), []api.Delta{plain("0"), plain("999999999999999999999999/1000000000000000000000000"), pair("1", "-1"), pair("1", "-"+tiny), pair("-1", "99")}, []api.Delta{plain("2"), pair("1", "1"), pair("1", tiny), pair("2", "-99")}},
		{plain("0"), []api.Delta{plain("-" + tiny), pair("0", "-"+tiny), plain("-18446744073709551616")}, []api.Delta{plain(tiny), pair("0", tiny), plain("18446744073709551616")}},
		{pair("-7/3", "1/2"), []api.Delta{pair("-7/3", "1/3"), plain("-7/3"), pair("-7/3", "-1/2"), pair("-8/3", "5")}, []api.Delta{pair("-7/3", "2/3"), pair("-2", "-5")}},
		{pair("4294967296", "-4294967296"), []api.Delta{pair("4294967296", "-4294967297"), plain("4294967295")}, []api.Delta{plain("4294967296"), pair("4294967296", "-4294967295")}},
	}
}

func wantKind(t *testing.T, what string, do func(int, api.Delta, int) (api.Verdict, api.Errno), v int, d api.Delta, kind, other int) {
	t.Helper()
	for i, same := range written(d) {
		got, e := do(v, same, 50+i)
		wantVerdict(t, fmt.Sprintf("%s(%d, %v)", what, v, in(same)), got, e, kind, other)
	}
}

// Kept: what is not tighter than the bound that there is. Nothing changes, the why neither.
func TestP83Kept(t *testing.T) {
	for _, n := range nears() {
		s, m := newStore(t, 2), newModel(2)
		lift(t, s, 1, n.at, 7)
		press(t, s, 0, n.at, -7)
		m.lift(1, in(n.at), 7)
		m.press(0, in(n.at), -7)
		for _, d := range append(n.below, n.at) {
			wantKind(t, "Lift", s.Lift, 1, d, api.BoundKept, 0)
		}
		for _, d := range append(n.above, n.at) {
			wantKind(t, "Press", s.Press, 0, d, api.BoundKept, 0)
		}
		wantStore(t, "behind what is kept", s, m)
	}
}

// Clash: what lies beyond the other bound. Nothing changes; Other is that one's why, be it 0 or below 0.
func TestP83Clash(t *testing.T) {
	for _, why := range []int{7, 0, -1, math.MinInt, math.MaxInt} {
		for _, n := range nears() {
			s, m := newStore(t, 2), newModel(2)
			lift(t, s, 1, n.at, why)
			press(t, s, 0, n.at, why)
			m.lift(1, in(n.at), why)
			m.press(0, in(n.at), why)
			for _, d := range n.below {
				wantKind(t, "Press", s.Press, 1, d, api.BoundClash, why)
			}
			for _, d := range n.above {
				wantKind(t, "Lift", s.Lift, 0, d, api.BoundClash, why)
			}
			wantStore(t, "behind a clash", s, m)
		}
	}
}

// Moved: what is tighter than the bound that there is, and not beyond the other one; just at the other one too.
func TestP83Moved(t *testing.T) {
	for _, n := range nears() {
		for _, d := range n.above {
			for _, same := range written(d) {
				wantMoves(t, newStore(t, 1), newModel(1), []api.Delta{n.at, same}, nil)
				wantMoves(t, newStore(t, 1), newModel(1), []api.Delta{n.at, same}, []api.Delta{d})
			}
		}
		for _, d := range n.below {
			for _, same := range written(d) {
				wantMoves(t, newStore(t, 1), newModel(1), nil, []api.Delta{n.at, same})
				wantMoves(t, newStore(t, 1), newModel(1), []api.Delta{d}, []api.Delta{n.at, same})
			}
		}
		for _, same := range written(n.at) {
			wantMoves(t, newStore(t, 1), newModel(1), []api.Delta{n.at}, []api.Delta{same})
		}
	}
}

// wantMoves lifts and presses the variable 0, each time with another why and at another level, and asks for a move each time.
func wantMoves(t *testing.T, s *bounds.Store, m *model, lower, upper []api.Delta) {
	t.Helper()
	for i, d := range lower {
		lift(t, s, 0, d, i-1)
		m.lift(0, in(d), i-1)
		wantStore(t, "Lift", s, m)
		s.Push()
		m.level++
	}
	for i, d := range upper {
		press(t, s, 0, d, i-1)
		m.press(0, in(d), i-1)
		wantStore(t, "Press", s, m)
		s.Push()
		m.level++
	}
}

// With both bounds alike: what is just at them is kept, and what is beyond one of them clashes, be it by the delta's part alone.
func TestP83FixedVariable(t *testing.T) {
	s, m := newStore(t, 1), newModel(1)
	lift(t, s, 0, plain("2"), 3)
	press(t, s, 0, plain("2"), 4)
	m.lift(0, in(plain("2")), 3)
	m.press(0, in(plain("2")), 4)
	wantKind(t, "Lift", s.Lift, 0, plain("2"), api.BoundKept, 0)
	wantKind(t, "Press", s.Press, 0, plain("2"), api.BoundKept, 0)
	wantKind(t, "Lift", s.Lift, 0, pair("2", "1"), api.BoundClash, 4)
	wantKind(t, "Press", s.Press, 0, pair("2", "-1"), api.BoundClash, 3)
	wantKind(t, "Lift", s.Lift, 0, pair("2", "-1"), api.BoundKept, 0)
	wantKind(t, "Press", s.Press, 0, pair("2", "1"), api.BoundKept, 0)
	wantStore(t, "behind all", s, m)
}

// Any calls at all, each answer and all that is told behind it.
func TestP83P84AnyCalls(t *testing.T) {
	r := rand.New(rand.NewSource(83))
	for range 150 {
		vars := r.Intn(4)
		s, m := newStore(t, vars), newModel(vars)
		for range 60 {
			step(t, r, s, m)
			wantStore(t, "any calls", s, m)
		}
	}
}
