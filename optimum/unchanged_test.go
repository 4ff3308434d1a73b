package optimum_test

import (
	"fmt"
	"math/rand"
	"testing"

	"fulcrum/api"
	"fulcrum/optimum"
	"fulcrum/simplex"
)

// all is what a simplex tells, with what Check would do.
func all(s *simplex.Simplex) string {
	out := fmt.Sprint(s.Size(), s.Level(), s.Pivots(), s.Tableau())
	for v := range s.Size() {
		d, _ := s.Value(v)
		l, _ := s.Limit(v)
		out += fmt.Sprint(d, l)
	}
	numbers, e := s.Model()
	out += fmt.Sprint(numbers, e)
	next := s.Clone()
	why, e := next.Check()
	return out + fmt.Sprint(why, e, next.Pivots(), next.Tableau())
}

// askAll asks all that there is to ask of a world's simplex.
func (w *world) askAll(r *rand.Rand) {
	for range 2 {
		f := someAffine(r, len(w.roots))
		if r.Intn(8) == 0 {
			f.Form = append(f.Form, api.Mono{Var: len(w.roots), Coef: num("1")})
		}
		up, _ := optimum.Greatest(w.s, f)
		optimum.Least(w.s, f)
		optimum.Proves(w.s, f, up.Value, up.Dual)
		optimum.Proves(w.s, f, someDelta(r), w.someDual(r))
	}
}

// One that is asked all the time goes on as one that is never asked.
func TestO4NothingIsToBeSeen(t *testing.T) {
	for seed := range int64(60) {
		sizes := rand.New(rand.NewSource(seed))
		vars, forms := sizes.Intn(4), sizes.Intn(4)
		one, other, asks := rand.New(rand.NewSource(seed)), rand.New(rand.NewSource(seed)), rand.New(rand.NewSource(-seed))
		a, b := drawn(t, one, vars, forms, 0), drawn(t, other, vars, forms, 0)
		for range min(30, 30*len(a.roots)) {
			a.askAll(asks)
			if all(a.s) != all(b.s) {
				t.Fatal("what was asked is to be seen")
			}
			a.someCall(t, one)
			b.someCall(t, other)
			if all(a.s) != all(b.s) {
				t.Fatal("what was asked is to be seen in what comes then")
			}
		}
	}
}

// Check, Push, bounds and Back behind what was asked do what they would do.
func TestO4WhatComesThen(t *testing.T) {
	w := begun(t, "0>1", "1>1", "2<6")
	w.wantGreatest(t, affine("0", "1", 0), api.OptAttained, plain("5"))
	w.wantNoGreatest(t, affine("0", "1", w.define(t, nil), "1", w.newVar(t)))
	wantInt(t, "Pivots", w.s.Pivots(), 0)
	for v, text := range []string{"1", "1", "2"} {
		d, e := w.s.Value(v)
		wantErr(t, "Value", e, api.OK)
		wantDelta(t, "Value", d, in(plain(text)))
	}
	w.push()
	w.told(t, "2>4")
	w.wantLeast(t, affine("0", "1", 2), api.OptAttained, plain("4"))
	_, e := w.s.Check()
	wantErr(t, "Check", e, api.OK)
	wantInt(t, "Pivots", w.s.Pivots(), 1)
	w.wantLeast(t, affine("0", "1", 2), api.OptAttained, plain("4"))
	wantInt(t, "Level", w.s.Level(), 1)
	w.back(t, 0)
	w.wantLeast(t, affine("0", "1", 2), api.OptAttained, plain("2"))
	wantInt(t, "Pivots", w.s.Pivots(), 1)
}

func (w *world) newVar(t *testing.T) int {
	t.Helper()
	w.grow(t)
	return len(w.roots) - 1
}

// answer is what hangs on the forms and the bounds alone.
func answer(t *testing.T, s *simplex.Simplex, f api.Affine) string {
	t.Helper()
	up, e := optimum.Greatest(s, f)
	down, again := optimum.Least(s, f)
	return fmt.Sprint(e, up.Kind, up.Value, again, down.Kind, down.Value)
}

// Whatever was checked ahead, and whichever bounds were there for a while: Kind and Value are the same.
func TestO4KindAndValue(t *testing.T) {
	r := rand.New(rand.NewSource(115))
	pivots := 0
	for range 120 {
		w := planted(t, r, 1+r.Intn(4), r.Intn(4))
		f := someAffine(r, len(w.roots))
		want := answer(t, w.s, f)
		w.s.Check()
		if got := answer(t, w.s, f); got != want {
			t.Fatalf("behind Check %s, not %s", got, want)
		}
		for range 6 {
			w.s.Push()
			for range 4 {
				w.s.Lift(r.Intn(len(w.roots)), someDelta(r), 1)
				w.s.Press(r.Intn(len(w.roots)), someDelta(r), 2)
			}
			w.s.Check()
			w.s.Back(w.s.Level() - 1)
			if got := answer(t, w.s, f); got != want {
				t.Fatalf("behind bounds that are left %s, not %s", got, want)
			}
		}
		pivots += w.s.Pivots()
	}
	if pivots < 100 {
		t.Fatal("so few pivots", pivots)
	}
}

// The bounds may have come in any order, and behind others that are less tight; whys say nothing.
func TestO4TheOrderOfBounds(t *testing.T) {
	r := rand.New(rand.NewSource(116))
	for range 120 {
		vars := 1 + r.Intn(4)
		w, again := planted(t, r, vars, 0), opened(t, vars)
		forms := []api.Form{someForm(r, len(w.roots)), someForm(r, len(w.roots)), someForm(r, len(w.roots))}
		for _, x := range forms {
			w.press(w.define(t, x), plain("20"))
			again.define(t, x)
		}
		for _, v := range r.Perm(len(w.roots)) {
			l := w.limits[v]
			if l.upper != nil {
				again.s.Press(v, l.upper.plus(one(), in(plain("3"))).delta(), r.Int())
				again.s.Press(v, l.upper.delta(), -r.Int())
			}
			if l.lower != nil {
				again.s.Lift(v, l.lower.delta(), r.Int())
			}
			again.s.Check()
		}
		for range 3 {
			f := someAffine(r, len(w.roots))
			if got, want := answer(t, again.s, f), answer(t, w.s, f); got != want {
				t.Fatalf("bounds in another order: %s, not %s", got, want)
			}
		}
	}
}
