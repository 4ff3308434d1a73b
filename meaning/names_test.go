package meaning_test

import (
	"fmt"
	"math"
	"slices"
	"testing"

	"fulcrum/api"
	"fulcrum/meaning"
	"fulcrum/terms"
)

func wantNoNames(t *testing.T, b *terms.Bank, n int) {
	t.Helper()
	l, e := meaning.Names(b, n)
	wantErr(t, fmt.Sprint("Names of ", n), e, api.ErrTerm)
	if len(l) != 0 {
		t.Fatal("names beside the error", l)
	}
}

func TestV2NoSuchTerm(t *testing.T) {
	b := bank(t)
	for _, n := range []int{-1, b.Len(), math.MaxInt, math.MinInt} {
		wantNoNames(t, b, n)
	}
	wantNoNames(t, terms.New(), 0)
	for _, none := range unmade() {
		wantNoNames(t, none, 0)
		wantNoNames(t, none, -1)
	}
}

func TestV2Names(t *testing.T) {
	b := bank(t)
	for text, want := range map[string][]string{
		"x": {"x"}, "true": nil, "7": nil, "(+ 1 2)": nil, "(and true (not false))": nil, "(* 0 x)": {"x"}, "(or true q p)": {"p", "q"}, "(ite p x y)": {"p", "x", "y"}, "(ite true y (ite false x z))": {"x", "y", "z"},
		"(= z z)": {"z"}, "(distinct z y x z)": {"x", "y", "z"}, "(and (< z 1) (< y 1) (< x 1) r q p)": {"p", "q", "r", "x", "y", "z"}, "(xor q (=> p q))": {"p", "q"}, "(<= (+ y x y) (- x))": {"x", "y"},
	} {
		wantNames(t, b, read(t, b, text), want...)
	}
}

// Names rise by their bytes, not by letters, lengths or the order in which they were given.
func TestV2TheOrderOfBytes(t *testing.T) {
	b := terms.New()
	names := []string{"x10", "x", "é", "x2", "X", "a b", "~", "x1", "B", "zz", "\U0001f600", "x ", "__", "0", "a", "10", "é1", "ÿ", "A"}
	var kids []int
	for _, name := range names {
		kids = append(kids, declare(t, b, name, api.SortReal))
	}
	kids = append(kids, stand(t, b, 10), stand(t, b, 2), stand(t, b, 1))
	slices.Sort(names)
	wantNames(t, b, add(t, b, api.TermAdd, kids...), append([]string{"\x001", "\x0010", "\x002"}, names...)...)
	slices.Reverse(kids)
	wantNames(t, b, add(t, b, api.TermAdd, kids...), append([]string{"\x001", "\x0010", "\x002"}, names...)...)
}

// What a constant that Stand made stands for does not stand in it.
func TestV2Stands(t *testing.T) {
	b := bank(t)
	sum := read(t, b, "(+ x y)")
	of := stand(t, b, sum)
	name := fmt.Sprint("\x00", sum)
	wantNames(t, b, of, name)
	wantNames(t, b, add(t, b, api.TermLess, of, read(t, b, "z")), name, "z")
}

// A name of two constants is told once; one that is forgotten is told all the same.
func TestV2ForgottenNames(t *testing.T) {
	b, amount, truth, both := twoSorts(t)
	wantErr(t, "Forget", b.Forget(0), api.OK)
	for _, n := range []int{amount, truth, both} {
		wantNames(t, b, n, "x")
	}
	declare(t, b, "w", api.SortBool)
	wantNames(t, b, add(t, b, api.TermOr, both, read(t, b, "w"), truth), "w", "x")
}

// Each constant of a term asks for a value, and no other name does.
func TestV2NamesAreWhatEvalAsksFor(t *testing.T) {
	for seed := range int64(100) {
		w := draw(t, seed)
		for n := range w.bank.Len() {
			names, e := meaning.Names(w.bank, n)
			wantErr(t, "Names", e, api.OK)
			_, e = meaning.Eval(w.bank, n, nil)
			if (e == api.OK) != (len(names) == 0) {
				t.Fatalf("the term %d: the error %d, and the names %q", n, e, names)
			}
		}
	}
}
