package bounds_test

import (
	"fmt"
	"math"
	"math/rand"
	"slices"
	"sync"
	"testing"

	"fulcrum/api"
	"fulcrum/bounds"
)

// The rules R1 to R4 of DOC.md in this layer.

const behind = 0xabcdef01

// roomy is the same limbs with marked room behind their end.
func roomy(n api.Nat) api.Nat {
	return append(slices.Clone(n), behind, behind, behind)[: len(n) : len(n)+3]
}

func roomyDelta(d api.Delta) api.Delta {
	for _, r := range []*api.Rat{&d.A, &d.B} {
		r.Num.Abs, r.Den = roomy(r.Num.Abs), roomy(r.Den)
	}
	return d
}

// roomyState has room behind each of its lists.
func roomyState(s api.Bounds) api.Bounds {
	mark := func() api.Bound { return at(plain("77"), behind) }
	limits := append([]api.Limit{}, s.Limits...)
	changes := append([]api.Change{}, s.Trail...)
	for i := range limits {
		limits[i].Lower.At, limits[i].Upper.At = roomyDelta(limits[i].Lower.At), roomyDelta(limits[i].Upper.At)
	}
	for i := range changes {
		changes[i].Was.At = roomyDelta(changes[i].Was.At)
	}
	limits = append(limits, api.Limit{Lower: mark()}, api.Limit{Upper: mark()})
	changes = append(changes, api.Change{Was: mark()}, api.Change{Was: mark()})
	return api.Bounds{Limits: limits[: len(s.Limits) : len(s.Limits)+2], Level: s.Level, Trail: changes[: len(s.Trail) : len(s.Trail)+2]}
}

// listsOf is all limbs of a number, with the room behind their end.
func listsOf(d api.Delta) []api.Nat {
	var out []api.Nat
	for _, n := range []api.Nat{d.A.Num.Abs, d.A.Den, d.B.Num.Abs, d.B.Den} {
		out = append(out, n[:cap(n)])
	}
	return out
}

// listsIn is all limbs of a state, those in the room behind its lists' ends too.
func listsIn(s api.Bounds) []api.Nat {
	var out []api.Nat
	for _, l := range s.Limits[:cap(s.Limits)] {
		out = append(append(out, listsOf(l.Lower.At)...), listsOf(l.Upper.At)...)
	}
	for _, c := range s.Trail[:cap(s.Trail)] {
		out = append(out, listsOf(c.Was.At)...)
	}
	return out
}

// print is all that a state is, to the end of the room behind its lists.
func print(s api.Bounds) string {
	return fmt.Sprint(s.Limits[:cap(s.Limits)], len(s.Limits), s.Level, s.Trail[:cap(s.Trail)], len(s.Trail), listsIn(s))
}

// scribble writes into each list of limbs a number of its own, and asks whether it is still there when all are written: no two share memory.
func scribble(t *testing.T, what string, lists []api.Nat) {
	t.Helper()
	for i, l := range lists {
		for j := range l {
			l[j] = uint32(1000 + i)
		}
	}
	for i, l := range lists {
		for j := range l {
			if l[j] != uint32(1000+i) {
				t.Fatalf("%s: two lists share memory", what)
			}
		}
	}
}

// scribbleState spoils all of a state, and the room behind its lists' ends.
func scribbleState(t *testing.T, s api.Bounds) {
	t.Helper()
	scribble(t, "a state", listsIn(s))
	for i := range s.Limits[:cap(s.Limits)] {
		s.Limits[:cap(s.Limits)][i] = api.Limit{Lower: at(plain("99"), 99), Upper: at(plain("-99"), 99)}
	}
	for i := range s.Trail[:cap(s.Trail)] {
		s.Trail[:cap(s.Trail)][i] = api.Change{Var: 99, Level: 99, Upper: true, Was: at(plain("99"), 99)}
	}
}

// busy is a store behind so many calls.
func busy(t *testing.T, r *rand.Rand) (*bounds.Store, *model) {
	t.Helper()
	s, m := newStore(t, 3), newModel(3)
	for range 5 + r.Intn(30) {
		step(t, r, s, m)
	}
	return s, m
}

func TestR1AnyArguments(t *testing.T) {
	ints := append(far(2), 0, 1)
	for _, vars := range ints {
		made, _ := bounds.New(vars)
		for _, s := range []*bounds.Store{made, {}, nil} {
			for _, v := range ints {
				for _, zero := range zeros() {
					d := api.Delta{A: zero, B: num("-1")}
					s.Lift(v, d, v)
					s.Press(v, d, v)
					s.Inside(v, d)
					s.Fits([]api.Delta{d, {}, d})
				}
				s.Limit(v)
				s.Fixed(v)
				s.Push()
				s.Back(v)
				s.Vars()
				s.Level()
			}
			s.Fits(nil)
			s.State()
		}
	}
}

// Beside an error there is nothing else, and nothing has changed.
func TestR2NothingChangesBesideAnError(t *testing.T) {
	r := rand.New(rand.NewSource(2))
	for range 40 {
		s, m := busy(t, r)
		for _, v := range far(len(m.first)) {
			wantNothing(t, s, v, api.ErrVar)
		}
		for _, level := range []int{-1, m.level + 1, math.MaxInt, math.MinInt} {
			wantErr(t, "Back", s.Back(level), api.ErrLevel)
		}
		wantStore(t, "behind errors", s, m)
	}
}

// What is handed to Lift, Press, Inside and Fits is neither changed nor kept; the room behind a list's end neither.
func TestR3NumbersHandedIn(t *testing.T) {
	r := rand.New(rand.NewSource(3))
	for range 60 {
		s, m := busy(t, r)
		v, d, vals := r.Intn(3), roomyDelta(someDelta(r)), []api.Delta{roomyDelta(someDelta(r)), roomyDelta(someDelta(r)), plain("5"), plain("6")}
		vals = vals[:2]
		ahead, value := fmt.Sprint(d, listsOf(d), vals[:4], listsOf(vals[0]), listsOf(vals[1])), in(d)
		s.Fits(vals)
		s.Inside(v, d)
		if r.Intn(2) == 0 {
			s.Lift(v, d, 5)
			m.lift(v, value, 5)
		} else {
			s.Press(v, d, 5)
			m.press(v, value, 5)
		}
		if fmt.Sprint(d, listsOf(d), vals[:4], listsOf(vals[0]), listsOf(vals[1])) != ahead {
			t.Fatal("what was handed in is changed")
		}
		scribble(t, "numbers handed in", append(append(listsOf(d), listsOf(vals[0])...), listsOf(vals[1])...))
		wantStore(t, "behind what was done to the numbers", s, m)
	}
}

func TestR3StatesHandedIn(t *testing.T) {
	r := rand.New(rand.NewSource(31))
	for i := range 60 {
		teller, m := busy(t, r)
		state := roomyState(teller.State())
		if i%3 == 0 {
			state.Level = -1 // one that may not be is not changed either
		}
		ahead := print(state)
		s, e := bounds.Load(state)
		if print(state) != ahead {
			t.Fatal("Load changed the state")
		}
		if i%3 == 0 {
			wantErr(t, "Load", e, api.ErrState)
			continue
		}
		wantErr(t, "Load", e, api.OK)
		scribbleState(t, state)
		wantStore(t, "Load behind what was done to the state", s, m)
		ahead = print(state)
		for range 15 {
			step(t, r, s, m)
		}
		wantStore(t, "Load, gone on with", s, m)
		if print(state) != ahead {
			t.Fatal("the store writes into what it was given")
		}
	}
}

// Load keeps nothing of lists that are empty either: what the store puts down does not come to stand in the room behind them.
func TestR3EmptyListsHandedIn(t *testing.T) {
	limits, changes := make([]api.Limit, 3), make([]api.Change, 3)
	s := loaded(t, api.Bounds{Limits: limits[:0], Trail: changes[:0]})
	for range 3 {
		v, e := s.Grow()
		wantErr(t, "Grow", e, api.OK)
		lift(t, s, v, plain("1"), 7)
	}
	for i := range 3 {
		if limits[i].Lower.Has || changes[i].Var != 0 {
			t.Fatal("the store writes into the room behind a list")
		}
	}
	m := newModel(3)
	for v := range 3 {
		m.lift(v, in(plain("1")), 7)
		limits[v], changes[v] = api.Limit{Upper: at(plain("0"), 1)}, api.Change{Var: 5}
	}
	wantStore(t, "behind what was done to the room", s, m)
}

// An answer is new memory: what is done to it changes neither the store nor another answer.
func TestR3AnswersAreNewMemory(t *testing.T) {
	r := rand.New(rand.NewSource(32))
	for range 60 {
		s, m := busy(t, r)
		first, second := s.State(), s.State()
		scribbleState(t, first)
		wantState(t, "another answer", second, m)
		wantStore(t, "behind what was done to a state", s, m)
		for v := range m.first {
			one, _ := s.Limit(v)
			two, _ := s.Limit(v)
			lower, upper := m.lower(v), m.upper(v)
			scribble(t, "a Limit", append(listsOf(one.Lower.At), listsOf(one.Upper.At)...))
			wantLimit(t, "another Limit", two, lower, upper)
			wantStore(t, "behind what was done to a Limit", s, m)
		}
		kept := m.clone()
		for range 15 {
			step(t, r, s, m)
		}
		wantState(t, "an answer from ahead", second, kept)
	}
}

// Two stores do not disturb one another, be one made of the other's state.
func TestR4StoresKnowNothingOfOneAnother(t *testing.T) {
	r := rand.New(rand.NewSource(4))
	for range 40 {
		a, m := busy(t, r)
		b, n := busy(t, r)
		c, o := loaded(t, a.State()), m.clone()
		for range 40 {
			switch r.Intn(3) {
			case 0:
				step(t, r, a, m)
			case 1:
				step(t, r, b, n)
			case 2:
				step(t, r, c, o)
			}
		}
		wantStore(t, "one", a, m)
		wantStore(t, "another one", b, n)
		wantStore(t, "one of its state", c, o)
	}
}

// The same calls give the same answers, side by side too.
func TestR4TheSameCallsGiveTheSameAnswers(t *testing.T) {
	const many = 8
	var told [many]string
	var all sync.WaitGroup
	for i := range many {
		all.Go(func() {
			r := rand.New(rand.NewSource(44))
			s, _ := bounds.New(4)
			for range 300 {
				s.Lift(r.Intn(4), someDelta(r), someWhy(r))
				s.Press(r.Intn(4), someDelta(r), someWhy(r))
				if r.Intn(4) == 0 {
					s.Push()
				}
				if r.Intn(8) == 0 {
					s.Back(s.Level() / 2)
				}
				told[i] += fmt.Sprint(s.State(), s.Fits(nil))
			}
		})
	}
	all.Wait()
	for _, text := range told {
		if text != told[0] {
			t.Fatal("the same calls, other answers")
		}
	}
}
