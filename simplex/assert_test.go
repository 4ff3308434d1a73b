package simplex_test

import (
	"fmt"
	"math"
	"math/rand"
	"testing"

	"fulcrum/api"
)

func TestS3NoSuchVariable(t *testing.T) {
	s, m := busyOne(t)
	for _, v := range far(s.Size()) {
		wantNothing(t, s, v)
		wantLike(t, "Lift and Press", s, m)
	}
}

// A variable that is not basic goes along with its bounds, and the basic ones with it.
func TestS3Moved(t *testing.T) {
	s := first(t)
	lift(t, s, 0, plain("3"), 1)
	wantValues(t, "Lift", s, wholes(3, 0, 3, 3)...)
	press(t, s, 1, plain("-1/2"), 2)
	wantValues(t, "Press", s, plain("3"), plain("-1/2"), plain("5/2"), plain("7/2"))
	lift(t, s, 0, pair("3", "1/3"), 3)
	wantValues(t, "Lift", s, pair("3", "1/3"), plain("-1/2"), pair("5/2", "1/3"), pair("7/2", "1/3"))
	press(t, s, 1, pair("-1/2", "-2"), 4)
	wantValues(t, "Press", s, pair("3", "1/3"), pair("-1/2", "-2"), pair("5/2", "-5/3"), pair("7/2", "7/3"))
	wantLimit(t, "Lift", s, 0, at(pair("3", "1/3"), 3), nil)
	wantLimit(t, "Press", s, 1, nil, at(pair("-1/2", "-2"), 4))
	wantInt(t, "Pivots", s.Pivots(), 0)
}

// A bound that the value keeps already moves no value.
func TestS3MovedWithinTheBounds(t *testing.T) {
	s := first(t)
	for i, d := range []api.Delta{plain("-9"), plain("-1/9"), pair("0", "-1"), plain("0")} {
		lift(t, s, 0, d, i)
		wantLimit(t, "Lift", s, 0, at(d, i), nil)
		press(t, s, 1, api.Delta{A: of(opposite(ratIn(d.A))), B: of(opposite(ratIn(d.B)))}, i)
		wantValues(t, "values at their bounds and within", s, wholes(0, 0, 0, 0)...)
	}
}

// A basic variable's bounds are put down, and move no value till Check.
func TestS3Basic(t *testing.T) {
	s := first(t)
	lift(t, s, 2, plain("5"), 1)
	press(t, s, 3, plain("-5"), 2)
	wantValues(t, "bounds of basic variables", s, wholes(0, 0, 0, 0)...)
	wantLimit(t, "Lift", s, 2, at(plain("5"), 1), nil)
	wantLimit(t, "Press", s, 3, nil, at(plain("-5"), 2))
	l, e := s.Press(2, plain("4"), 3)
	wantClash(t, "Press", l, e, by(3, "1", 1, "1"))
	l, e = s.Lift(3, plain("-4"), 4)
	wantClash(t, "Lift", l, e, by(4, "1", 2, "1"))
	wantTexts(t, s, map[int]string{2: "1*x0+1*x1", 3: "1*x0+-1*x1"})
}

// What is no tighter than the bound that there is changes nothing, its why neither.
func TestS3Kept(t *testing.T) {
	s := first(t)
	for _, v := range []int{0, 2} {
		lift(t, s, v, plain("2"), 5)
		press(t, s, v, plain("8"), 6)
		for _, d := range []api.Delta{plain("2"), pair("2", "-1"), plain("-3"), plain("0")} {
			for _, same := range written(d) {
				lift(t, s, v, same, 7)
			}
		}
		for _, d := range []api.Delta{plain("8"), pair("8", "1"), plain("9")} {
			for _, same := range written(d) {
				press(t, s, v, same, 7)
			}
		}
		wantLimit(t, "Lift and Press", s, v, at(plain("2"), 5), at(plain("8"), 6))
	}
	wantValues(t, "Lift and Press", s, wholes(2, 0, 2, 2)...)
}

// Of a clash the new why comes first, whatever the whys are; and nothing has changed.
func TestS3Clash(t *testing.T) {
	for _, whys := range [][2]int{{1, 2}, {2, 1}, {0, 0}, {0, 5}, {5, 0}, {-3, 7}, {7, -3}, {-1, -1}, {4, 4}, {math.MinInt, math.MaxInt}, {math.MaxInt, math.MinInt}} {
		old, new := whys[0], whys[1]
		for v := range 4 {
			s, m := first(t), firstModel()
			m.lift(v, in(plain("1")), old)
			lift(t, s, v, plain("1"), old)
			for _, d := range []api.Delta{pair("1", "-1"), pair("1", "-1/9"), plain("0"), plain("-7")} {
				l, e := s.Press(v, d, new)
				wantClash(t, "Press", l, e, by(new, "1", old, "1"))
				wantLike(t, "Press", s, m)
			}
			s, m = first(t), firstModel()
			m.press(v, in(plain("-1")), old)
			press(t, s, v, plain("-1"), old)
			for _, d := range []api.Delta{pair("-1", "1"), pair("-1", "1/9"), plain("0"), plain("7")} {
				l, e := s.Lift(v, d, new)
				wantClash(t, "Lift", l, e, by(new, "1", old, "1"))
				wantLike(t, "Lift", s, m)
			}
		}
	}
}

// Both bounds at one number clash with nothing; numbers that differ by the delta's part alone are told apart.
func TestS3Deltas(t *testing.T) {
	s := first(t)
	lift(t, s, 0, pair("2", "-1"), 1)
	wantValues(t, "Lift", s, pair("2", "-1"), plain("0"), pair("2", "-1"), pair("2", "-1"))
	lift(t, s, 0, plain("2"), 2)
	wantValues(t, "Lift", s, wholes(2, 0, 2, 2)...)
	lift(t, s, 0, pair("2", "1/1000"), 3)
	wantValues(t, "Lift", s, pair("2", "1/1000"), plain("0"), pair("2", "1/1000"), pair("2", "1/1000"))
	press(t, s, 0, pair("2", "1/999"), 4)
	press(t, s, 0, pair("2", "1/1000"), 5)
	wantLimit(t, "Press", s, 0, at(pair("2", "1/1000"), 3), at(pair("2", "1/1000"), 5))
	l, e := s.Lift(0, pair("2", "1/999"), 6)
	wantClash(t, "Lift", l, e, by(6, "1", 5, "1"))
}

// However a number is written, it is the same bound, and the same value, normal.
func TestS3NumbersThatAreNotNormal(t *testing.T) {
	for _, d := range []api.Delta{plain("3/2"), pair("0", "2"), pair("7", "-1/3"), plain("0"), pair("100000000000000000000", "1")} {
		for _, same := range written(d) {
			s := first(t)
			press(t, s, 1, plain("-1"), 1)
			lift(t, s, 0, same, 2)
			wantLimit(t, fmt.Sprintf("Lift to %+v", same), s, 0, at(d, 2), nil)
			got, e := s.Value(0)
			wantErr(t, "Value", e, api.OK)
			wantDelta(t, "Value", got, in(d))
			got, e = s.Value(2)
			wantErr(t, "Value", e, api.OK)
			wantDelta(t, "Value", got, in(d).plus(one(), in(plain("-1"))))
		}
	}
}

// Lift and Press by the model, behind any calls; each kind of answer is met often.
func TestS3LiftAndPress(t *testing.T) {
	r := rand.New(rand.NewSource(93))
	seen := map[string]int{}
	for range 300 {
		s, m := busy(t, r, 10+r.Intn(40))
		for why := range 6 {
			v, d := anyVar(r, len(m.roots)), someDelta(r)
			moves := len(m.moves)
			l, e := s.Lift(v, d, -why)
			want, code := m.lift(v, in(d), -why)
			if r.Intn(2) == 0 {
				l, e = s.Press(v, d, why)
				want, code = m.press(v, in(d), why)
			}
			wantErr(t, "Lift, Press", e, code)
			wantTimes(t, "Lift, Press", l, want)
			wantLike(t, "Lift, Press", s, m)
			seen[fmt.Sprint(e, m.has(v) && m.basic[v], len(m.moves) > moves)]++
		}
	}
	for _, kind := range []string{"0 true true", "0 true false", "0 false true", "0 false false", "90 true false", "90 false false", "61 false false"} {
		if seen[kind] < 20 {
			t.Fatal("what was answered:", seen)
		}
	}
}
