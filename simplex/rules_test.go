package simplex_test

import (
	"fmt"
	"math"
	"math/rand"
	"reflect"
	"sync"
	"testing"

	"fulcrum/api"
	"fulcrum/simplex"
)

// The rules R1 to R4 of DOC.md in this layer.

const behind = 0xabcdef01

// roomy is the same limbs with marked room behind their end.
func roomy(n api.Nat) api.Nat {
	return append(append(api.Nat{}, n...), behind, behind, behind)[: len(n) : len(n)+3]
}

func roomyRat(r api.Rat) api.Rat {
	r.Num.Abs, r.Den = roomy(r.Num.Abs), roomy(r.Den)
	return r
}

func roomyDelta(d api.Delta) api.Delta {
	return api.Delta{A: roomyRat(d.A), B: roomyRat(d.B)}
}

func roomyForm(f api.Form) api.Form {
	out := api.Form{}
	for _, part := range f {
		out = append(out, api.Mono{Var: part.Var, Coef: roomyRat(part.Coef)})
	}
	mark := func() api.Mono { return api.Mono{Var: behind, Coef: roomyRat(num("7"))} }
	return append(out, mark(), mark())[: len(f) : len(f)+2]
}

// lists is all lists of a value, and of what stands in them, to the end of the room behind them.
func lists(v reflect.Value) []reflect.Value {
	var out []reflect.Value
	switch v.Kind() {
	case reflect.Slice:
		if v.Cap() > 0 {
			v = v.Slice(0, v.Cap())
			out = append(out, v)
		}
		for i := range v.Len() {
			out = append(out, lists(v.Index(i))...)
		}
	case reflect.Struct:
		for i := range v.NumField() {
			out = append(out, lists(v.Field(i))...)
		}
	}
	return out
}

// print is all that a value is, to the end of the room behind its lists.
func print(v any) string {
	out := fmt.Sprintf("%v", v)
	for _, l := range lists(reflect.ValueOf(v)) {
		out += fmt.Sprintf(" %v", l.Interface())
	}
	return out
}

// wantApart: no two lists of these values share memory.
func wantApart(t *testing.T, what string, values ...any) {
	t.Helper()
	type room struct{ from, to uintptr }
	var rooms []room
	for _, v := range values {
		for _, l := range lists(reflect.ValueOf(v)) {
			rooms = append(rooms, room{l.Pointer(), l.Pointer() + uintptr(l.Len())*l.Type().Elem().Size()})
		}
	}
	for i, a := range rooms {
		for _, b := range rooms[:i] {
			if a.from < b.to && b.from < a.to {
				t.Fatalf("%s: two lists share memory", what)
			}
		}
	}
}

// spoil writes over all of a value's lists, and the room behind them.
func spoil(v any) {
	l := lists(reflect.ValueOf(v))
	for i := len(l) - 1; i >= 0; i-- { // limbs ahead of what has them
		for k := range l[i].Len() {
			scrawl(l[i].Index(k))
		}
	}
}

func scrawl(v reflect.Value) {
	switch {
	case v.CanUint():
		v.SetUint(99)
	case v.CanInt():
		v.SetInt(99)
	case v.Kind() == reflect.Bool:
		v.SetBool(!v.Bool())
	case v.Kind() == reflect.Struct:
		for i := range v.NumField() {
			scrawl(v.Field(i))
		}
	case v.Kind() == reflect.Slice:
		v.SetZero()
	}
}

// A panic would end the test; so would a call that does not end.
func TestR1AnyArguments(t *testing.T) {
	r := rand.New(rand.NewSource(1))
	ints := append(far(3), 0, 1, 2)
	for range 3 {
		s, _ := busy(t, r, 30)
		for _, v := range ints {
			for _, zero := range zeros() {
				for _, d := range []api.Delta{{A: zero}, {B: zero}, {A: zero, B: num("-1")}, {A: otherwise(num("2")), B: zero}} {
					s.Lift(v, d, v)
					s.Press(v, d, v)
				}
				s.Define(api.Form{{Var: v, Coef: zero}, {Var: v, Coef: num("3")}})
				s.Define(api.Form{{Var: v}, {Var: 0, Coef: zero}, {Var: 1, Coef: num("1/3")}})
			}
			s.Check()
			s.Value(v)
			s.Limit(v)
			s.Push()
			s.Model()
			s.Back(v)
			s.Clone().Check()
			s.Tableau()
		}
	}
}

// Beside an error there is nothing else, but the multipliers of a clash, and nothing has changed.
func TestR2NothingChangesBesideAnError(t *testing.T) {
	r := rand.New(rand.NewSource(2))
	for range 30 {
		s, m := busy(t, r, 40)
		for _, v := range far(len(m.roots)) {
			wantNothing(t, s, v)
			_, e := s.Define(form("1", v, "2", 0))
			wantErr(t, "Define", e, api.ErrVar)
		}
		for _, level := range []int{-1, m.level + 1, math.MaxInt, math.MinInt} {
			wantErr(t, "Back", s.Back(level), api.ErrLevel)
		}
		wantLike(t, "behind errors", s, m)
	}
}

// What is handed to Define, Lift and Press is neither changed nor kept, and what lies behind a list's end neither.
func TestR3WhatIsHandedIn(t *testing.T) {
	r := rand.New(rand.NewSource(3))
	for range 150 {
		s, m := busy(t, r, 20)
		f := roomyForm(someForm(r, len(m.roots)))
		d, v := roomyDelta(someDelta(r)), anyVar(r, len(m.roots))
		ahead := print(f) + print(d)
		s.Define(f)
		m.define(f)
		var l []api.Multiplier
		if r.Intn(2) == 0 {
			l, _ = s.Lift(v, d, 77)
			m.lift(v, in(d), 77)
		} else {
			l, _ = s.Press(v, d, 77)
			m.press(v, in(d), 77)
		}
		if print(f)+print(d) != ahead {
			t.Fatal("what was handed in has changed")
		}
		wantApart(t, "an answer and what was handed in", f, d, l, s.Tableau(), limitOf(t, s, v), s.Clone().Tableau())
		spoil(f)
		spoil(d)
		ahead = print(f) + print(d)
		wantLike(t, "behind what was done to it", s, m)
		s.Check()
		m.check()
		wantLike(t, "behind what was done to it, and Check", s, m)
		if print(f)+print(d) != ahead {
			t.Fatal("something was written to what was handed in")
		}
	}
}

func limitOf(t *testing.T, s *simplex.Simplex, v int) api.Limit {
	t.Helper()
	l, _ := s.Limit(v)
	return l
}

// What lies behind a list's end is not read: forms and numbers are what they are without it.
func TestR3RoomBehindAList(t *testing.T) {
	s, m := first(t), firstModel()
	define(t, s, roomyForm(form("1", 1, "1", 0)), 2)
	define(t, s, roomyForm(nil), 4)
	m.define(nil)
	lift(t, s, 0, roomyDelta(pair("3", "1")), 1)
	m.lift(0, in(pair("3", "1")), 1)
	press(t, s, 2, roomyDelta(plain("0")), 2)
	m.press(2, in(plain("0")), 2)
	check(t, s)
	m.check()
	wantLike(t, "room behind lists", s, m)
}

// allOf is all answers of calls that change nothing, or nothing more.
func allOf(t *testing.T, s *simplex.Simplex) []any {
	t.Helper()
	said, _ := s.Check()
	numbers, _ := s.Model()
	out := []any{said, numbers, s.Tableau()}
	for v := range s.Size() {
		d, _ := s.Value(v)
		c, _ := s.Clone().Value(v)
		out = append(out, d, c, limitOf(t, s, v))
	}
	return out
}

// An answer is new memory: what is done to it changes neither the simplex nor another answer.
func TestR3AnswersAreNewMemory(t *testing.T) {
	r := rand.New(rand.NewSource(33))
	clashes := 0
	for range 80 {
		s, m := busy(t, r, 40)
		if _, e := m.check(); e != api.OK {
			clashes++
		}
		answers, again := allOf(t, s), allOf(t, s)
		wantApart(t, "answers", append(answers, again...)...)
		was := print(again)
		for _, x := range answers {
			spoil(x)
		}
		if print(again) != was {
			t.Fatal("one answer changes with another one")
		}
		for _, x := range again {
			spoil(x)
		}
		wantLike(t, "behind what was done to answers", s, m)
	}
	if clashes < 10 {
		t.Fatal("so few clashes", clashes)
	}
}

// The two multipliers of a bound that clashes are new memory too.
func TestR3MultipliersOfAClash(t *testing.T) {
	s := first(t)
	lift(t, s, 0, plain("1"), 1)
	press(t, s, 2, plain("5"), 2)
	one, _ := s.Press(0, plain("0"), 3)
	two, _ := s.Press(0, plain("0"), 3)
	three, _ := s.Lift(2, plain("6"), 3)
	wantApart(t, "multipliers", one, two, three)
	spoil(one)
	wantTimes(t, "Press", two, by(3, "1", 1, "1"))
	wantTimes(t, "Lift", three, by(3, "1", 2, "1"))
	again, _ := s.Press(0, plain("0"), 3)
	wantTimes(t, "Press", again, by(3, "1", 1, "1"))
}

// An answer stays as it is, whatever is done to the simplex afterwards.
func TestR3AnswersStay(t *testing.T) {
	r := rand.New(rand.NewSource(34))
	for range 60 {
		s, m := busy(t, r, 30)
		x, values := s.Tableau(), valuesOf(t, s)
		numbers, _ := s.Model()
		said, _ := s.Clone().Check()
		was := print(x) + print(values) + print(numbers) + print(said)
		for why := range 20 {
			step(t, r, s, m, 1000+why)
		}
		if print(x)+print(values)+print(numbers)+print(said) != was {
			t.Fatal("an answer has changed")
		}
	}
}

func TestR3NilIsTheEmptyList(t *testing.T) {
	for _, order := range [][]api.Form{{nil, {}}, {{}, nil}} {
		s := started(t, 1)
		define(t, s, order[0], 1)
		define(t, s, order[1], 1)
	}
}

// Two of them do not disturb one another.
func TestR4TwoKnowNothingOfOneAnother(t *testing.T) {
	r := rand.New(rand.NewSource(4))
	for range 40 {
		a, m := busy(t, r, 20)
		b, n := busy(t, r, 20)
		for why := range 40 {
			if r.Intn(2) == 0 {
				step(t, r, a, m, 1000+why)
			} else {
				step(t, r, b, n, 1000+why)
			}
		}
		wantLike(t, "one", a, m)
		wantLike(t, "the other one", b, n)
	}
}

// The same calls give the same answers, side by side too: no order of a map is seen.
func TestR4TheSameCallsGiveTheSameAnswers(t *testing.T) {
	const many = 8
	var told [many]string
	var all sync.WaitGroup
	for i := range many {
		all.Go(func() {
			r := rand.New(rand.NewSource(44))
			s := simplex.New()
			for range 6 {
				s.Var()
			}
			for range 14 {
				s.Define(someForm(r, 6))
			}
			for why := range 200 {
				v, d := r.Intn(s.Size()), someDelta(r)
				lifted, _ := s.Lift(v, away(r, d, -5), why)
				pressed, _ := s.Press(r.Intn(s.Size()), away(r, d, 5), why)
				said, e := s.Check()
				numbers, _ := s.Model()
				told[i] += print(lifted) + print(pressed) + print(said) + print(numbers) + print(s.Tableau()) + fmt.Sprint(s.Pivots())
				if s.Push(); e != api.OK {
					s.Back(r.Intn(s.Level()))
				}
			}
		})
	}
	all.Wait()
	for _, text := range told {
		if text != told[0] {
			t.Fatal("the same calls, other answers")
		}
	}
}
