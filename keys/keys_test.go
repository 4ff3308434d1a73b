package keys_test

import (
	"fmt"
	"math"
	"math/rand"
	"strings"
	"testing"

	"fulcrum/api"
	"fulcrum/keys"
	"fulcrum/ratio"
)

// told is an atom as a text, each number by itself.
func told(a api.Atom) string {
	number := func(r api.Rat) string { return fmt.Sprint(r.Num.Neg, r.Num.Abs, r.Den) }
	out := fmt.Sprintf("%q %v %s", a.Name, a.Strict, number(a.Bound))
	for _, part := range a.Form {
		out += fmt.Sprint(" ", part.Var, " ", number(part.Coef))
	}
	return out
}

func rat(neg bool, den uint32, limbs ...uint32) api.Rat {
	return ratio.Norm(api.Rat{Num: api.Int{Neg: neg, Abs: limbs}, Den: api.Nat{den}})
}

// someAtoms are many that differ in one thing: in a limb, a sign, a variable, a letter, or in where one number ends and the next one begins.
func someAtoms() []api.Atom {
	nought := ratio.Whole(0)
	out := []api.Atom{{Bound: nought}}
	for _, name := range []string{"p", "q", "pp", "\x00", "\x01", "\x02", "\x00\x00", "\x001", "\xff", strings.Repeat("z", 500)} {
		out = append(out, api.Atom{Name: name, Bound: nought})
	}
	numbers := []api.Rat{ratio.Whole(1), ratio.Whole(2), ratio.Whole(127), ratio.Whole(128), ratio.Whole(129), ratio.Whole(1 << 32), ratio.Whole(1<<32 + 1), ratio.Whole(math.MaxInt64), rat(false, 1, 0, 0, 1), rat(false, 1, math.MaxUint32, math.MaxUint32, math.MaxUint32)}
	var forms []api.Form
	for _, v := range []int{0, 1, 127, 128, -1, math.MaxInt, math.MinInt} {
		for _, n := range numbers {
			forms = append(forms, api.Form{{Var: v, Coef: n}})
		}
	}
	for i, n := range numbers {
		forms = append(forms, api.Form{{Var: 0, Coef: n}, {Var: 1, Coef: numbers[len(numbers)-1-i]}}, api.Form{{Var: 0, Coef: n}, {Var: 1, Coef: ratio.Neg(n)}, {Var: 2, Coef: n}})
	}
	for _, f := range forms {
		for _, at := range []api.Rat{nought, ratio.Whole(1), ratio.Whole(-1), rat(true, 3, 0, 1), rat(false, 128, 1), rat(false, 1, 128)} {
			out = append(out, api.Atom{Form: f, Bound: at}, api.Atom{Form: f, Bound: at, Strict: true})
		}
	}
	return out
}

// Two atoms that may be have one key just if they are alike.
func TestKeysTellAtomsApart(t *testing.T) {
	seen := map[string]string{}
	for _, a := range someAtoms() {
		key := string(keys.WithAtom(nil, a))
		if other, ok := seen[key]; ok {
			t.Fatalf("one key for %s and %s", told(a), other)
		}
		seen[key] = told(a)
	}
	for _, a := range someAtoms() {
		if key := string(keys.WithAtom(nil, a)); seen[key] != told(a) {
			t.Fatal("another key for ", told(a))
		}
	}
}

// A key is put behind what is there, which stays; nothing of the atom is changed.
func TestKeysArePutBehind(t *testing.T) {
	r := rand.New(rand.NewSource(18))
	for _, a := range someAtoms() {
		was := told(a)
		ahead := make([]byte, r.Intn(5), 5+r.Intn(90))
		r.Read(ahead)
		want := string(ahead) + string(keys.WithAtom(nil, a))
		if got := string(keys.WithAtom(ahead, a)); got != want {
			t.Fatalf("%q, not %q", got, want)
		}
		if told(a) != was {
			t.Fatal("changed: ", was)
		}
	}
}
