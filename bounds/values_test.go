package bounds_test

import (
	"testing"

	"fulcrum/api"
	"fulcrum/bounds"
)

func wantFixed(t *testing.T, s *bounds.Store, v int, want bool) {
	t.Helper()
	got, e := s.Fixed(v)
	wantBool(t, "Fixed", got, e, want)
}

// wantInside asks for that in every way to write the number.
func wantInside(t *testing.T, s *bounds.Store, v int, d api.Delta, want bool) {
	t.Helper()
	for _, same := range written(d) {
		got, e := s.Inside(v, same)
		wantBool(t, "Inside of "+in(d).String(), got, e, want)
	}
}

func TestP85Fixed(t *testing.T) {
	for _, n := range nears() {
		s := newStore(t, 4)
		wantFixed(t, s, 0, false)
		lift(t, s, 0, n.at, 1)
		wantFixed(t, s, 0, false)
		press(t, s, 1, n.at, 1)
		wantFixed(t, s, 1, false)
		for _, d := range n.above {
			s.Push()
			press(t, s, 0, d, 2)
			wantFixed(t, s, 0, false)
			wantErr(t, "Back", s.Back(0), api.OK)
		}
		for _, same := range written(n.at) {
			s.Push()
			press(t, s, 0, same, 2)
			wantFixed(t, s, 0, true)
			lift(t, s, 1, same, 2)
			wantFixed(t, s, 1, true)
			wantFixed(t, s, 2, false)
			wantErr(t, "Back", s.Back(0), api.OK)
			wantFixed(t, s, 0, false)
			wantFixed(t, s, 1, false)
		}
	}
}

func TestP85Inside(t *testing.T) {
	for _, n := range nears() {
		s := newStore(t, 4)
		lift(t, s, 1, n.at, 1)
		press(t, s, 2, n.at, 1)
		lift(t, s, 3, n.at, 1)
		press(t, s, 3, n.at, 1)
		for v := range 4 {
			wantInside(t, s, v, n.at, true)
		}
		for _, d := range n.below {
			wantInside(t, s, 0, d, true)
			wantInside(t, s, 1, d, false)
			wantInside(t, s, 2, d, true)
			wantInside(t, s, 3, d, false)
		}
		for _, d := range n.above {
			wantInside(t, s, 0, d, true)
			wantInside(t, s, 1, d, true)
			wantInside(t, s, 2, d, false)
			wantInside(t, s, 3, d, false)
		}
	}
}

// The least variable counts, in lists of every length; a variable without a place in the list is 0.
func TestP85Fits(t *testing.T) {
	one, two := plain("1"), plain("2")
	s := newStore(t, 4)
	lift(t, s, 1, one, 1)
	press(t, s, 3, pair("0", "-1"), 1)
	for _, c := range []struct {
		vals []api.Delta
		want int
	}{
		{nil, 1}, {[]api.Delta{}, 1}, {[]api.Delta{two}, 1}, {[]api.Delta{two, pair("1", "-1")}, 1}, {[]api.Delta{two, one}, 3}, {[]api.Delta{two, two, two}, 3},
		{[]api.Delta{two, one, two, plain("0")}, 3}, {[]api.Delta{two, one, two, pair("0", "-1")}, -1}, {[]api.Delta{two, plain("0"), two, plain("0")}, 1},
		{[]api.Delta{two, one, two, plain("-1"), two, two}, -1}, {[]api.Delta{two, one, two, one, two, two}, 3}, {[]api.Delta{{}, pair("1", "1/9"), {}, pair("0", "-9"), {}}, -1},
	} {
		wantInt(t, "Fits", s.Fits(c.vals), c.want)
	}
	wantInt(t, "Fits", newStore(t, 0).Fits([]api.Delta{one}), -1)
	wantInt(t, "Fits", newStore(t, 2).Fits([]api.Delta{one}), -1)
}

func TestP85FitsOfAVariableWithoutAPlace(t *testing.T) {
	s := newStore(t, 3)
	lift(t, s, 2, pair("0", "1"), 1)
	press(t, s, 0, plain("5"), 1)
	wantInt(t, "Fits", s.Fits([]api.Delta{plain("5"), plain("7")}), 2)
	wantInt(t, "Fits", s.Fits([]api.Delta{plain("6"), plain("7")}), 0)
	wantInt(t, "Fits", s.Fits([]api.Delta{plain("5"), plain("7"), pair("0", "1")}), -1)
	for _, zero := range zeros() {
		wantInt(t, "Fits", s.Fits([]api.Delta{{A: zero}, {A: zero, B: zero}, {A: zero, B: zero}}), 2)
	}
}
