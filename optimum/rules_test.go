package optimum_test

import (
	"fmt"
	"math/rand"
	"reflect"
	"testing"

	"fulcrum/api"
	"fulcrum/optimum"
	"fulcrum/simplex"
)

// Of the rules R1 to R4 what the tests of package rules, which call this layer's functions too, can't see: what a simplex keeps.

// spoil writes over all lists of a value, of what stands in them, and of the room behind them.
func spoil(v reflect.Value) {
	switch v.Kind() {
	case reflect.Slice:
		v = v.Slice(0, v.Cap())
		for i := range v.Len() {
			spoil(v.Index(i))
			scrawl(v.Index(i))
		}
	case reflect.Struct:
		for i := range v.NumField() {
			spoil(v.Field(i))
		}
	}
}

func scrawl(v reflect.Value) {
	switch {
	case v.CanUint():
		v.SetUint(99)
	case v.CanInt():
		v.SetInt(99)
	case v.Kind() == reflect.Bool:
		v.SetBool(!v.Bool())
	case v.Kind() == reflect.Struct:
		for i := range v.NumField() {
			scrawl(v.Field(i))
		}
	case v.Kind() == reflect.Slice:
		v.SetZero()
	}
}

// An answer is new memory: what is done to it changes neither the simplex nor another answer.
func TestR3AnswersAndTheSimplex(t *testing.T) {
	r := rand.New(rand.NewSource(3))
	for range 60 {
		w := planted(t, r, 1+r.Intn(4), r.Intn(4))
		f, was := someAffine(r, len(w.roots)), all(w.s)
		up, _ := optimum.Greatest(w.s, f)
		down, _ := optimum.Least(w.s, f)
		told := fmt.Sprint(down)
		spoil(reflect.ValueOf(up))
		if fmt.Sprint(down) != told {
			t.Fatal("one answer changes with another one")
		}
		spoil(reflect.ValueOf(down))
		if all(w.s) != was {
			t.Fatal("the simplex changes with an answer")
		}
		if again, _ := optimum.Least(w.s, f); fmt.Sprint(again) != told {
			t.Fatal("the next answer changes with this one")
		}
	}
}

// What is handed in is not kept: what is done to it then changes nothing of the simplex, of answers, and of what comes then.
func TestR3WhatIsHandedIn(t *testing.T) {
	r := rand.New(rand.NewSource(33))
	for range 60 {
		w := planted(t, r, 1+r.Intn(4), r.Intn(4))
		f, was := someAffine(r, len(w.roots)), all(w.s)
		again := otherAffine(f)
		up, _ := optimum.Greatest(w.s, f)
		value, dual := otherDelta(up.Value), otherDual(up.Dual)
		proved := optimum.Proves(w.s, f, value, dual)
		told := fmt.Sprint(up)
		for _, x := range []any{f, value, dual} {
			spoil(reflect.ValueOf(x))
		}
		if fmt.Sprint(up) != told || all(w.s) != was {
			t.Fatal("what was handed in is kept")
		}
		same, _ := optimum.Greatest(w.s, again)
		if fmt.Sprint(same) != told {
			t.Fatalf("%v, then %v", told, same)
		}
		wantProof(t, "the same dual", optimum.Proves(w.s, again, up.Value, up.Dual), proved)
	}
}

// An answer stays as it is, whatever is done to the simplex then.
func TestR3AnswersStay(t *testing.T) {
	r := rand.New(rand.NewSource(34))
	for range 60 {
		w := planted(t, r, 1+r.Intn(4), r.Intn(4))
		up, _ := optimum.Greatest(w.s, someAffine(r, len(w.roots)))
		told := fmt.Sprint(up)
		for range 15 {
			w.someCall(t, r)
		}
		if fmt.Sprint(up) != told {
			t.Fatal("an answer has changed")
		}
	}
}

// What one simplex is asked changes nothing of another one, a clone of it neither; one that has had the same calls answers the same.
func TestR4OthersKnowNothing(t *testing.T) {
	for seed := range int64(40) {
		a, b := planted(t, rand.New(rand.NewSource(seed)), 3, 3), planted(t, rand.New(rand.NewSource(seed)), 3, 3)
		clone := a.s.Clone()
		r := rand.New(rand.NewSource(-seed))
		f := someAffine(r, len(a.roots))
		want, e := optimum.Greatest(a.s, f)
		wantErr(t, "Greatest", e, api.OK)
		for range 10 {
			a.askAll(r)
			a.someCall(t, r)
		}
		for _, s := range []*simplex.Simplex{b.s, clone} {
			got, e := optimum.Greatest(s, f)
			wantErr(t, "Greatest", e, api.OK)
			if fmt.Sprint(got) != fmt.Sprint(want) {
				t.Fatalf("%v, not %v", got, want)
			}
		}
	}
}
