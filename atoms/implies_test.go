package atoms_test

import (
	"math/big"
	"math/rand"
	"testing"

	"fulcrum/api"
)

// Every pair of relations, with bounds that are below one another, the same, above: in each line the literal ahead implies those behind it, and no others.
func TestA6Relations(t *testing.T) {
	for _, f := range [][]any{{"1", 0}, {"2", -3, "-3", 7}} {
		l := table(most("1", f...), under("1", f...), most("2", f...), under("2", f...), most("5/2", f...), under("-1/2", f...))
		for _, c := range [][]int{
			{2, 2, 4, 5, 6},              // x <= 1
			{3, 3, 2, 4, 5, 6},           // x < 1
			{4, 4, 6},                    // x <= 2
			{5, 5, 4, 6},                 // x < 2
			{6, 6},                       // x <= 5/2
			{7, 7, 2, 3, 4, 5, 6},        // x < -1/2
			{-2, -2, -3, -7},             // x > 1
			{-3, -3, -7},                 // x >= 1
			{-4, -4, -5, -2, -3, -7},     // x > 2
			{-5, -5, -2, -3, -7},         // x >= 2
			{-6, -6, -4, -5, -2, -3, -7}, // x > 5/2
			{-7, -7},                     // x >= -1/2
		} {
			wanted := map[int]int{1: 1}
			for _, b := range c[1:] {
				wanted[b]++
			}
			for _, b := range literals(l) {
				wantImplies(t, l, c[0], b, wanted[b] > 0)
			}
		}
	}
}

func TestA6TrueAndFalse(t *testing.T) {
	l := plain()
	for _, lit := range literals(l) {
		wantImplies(t, l, lit, 1, true)
		wantImplies(t, l, -1, lit, true)
		wantImplies(t, l, 1, lit, lit == 1)
		wantImplies(t, l, lit, -1, lit == -1)
		wantImplies(t, l, lit, lit, true)
		wantImplies(t, l, lit, -lit, lit == -1)
	}
	wantImplies(t, table(), 1, 1, true)
	wantImplies(t, table(), 1, -1, false)
	wantImplies(t, table(), -1, 1, true)
	wantImplies(t, table(), -1, -1, true)
}

func TestA6Names(t *testing.T) {
	l := plain()
	for _, a := range []int{2, -2, 6, -6} {
		for _, b := range literals(l) {
			wantImplies(t, l, a, b, a == b || b == 1)
			wantImplies(t, l, b, a, a == b || b == -1)
		}
	}
}

// Forms that are not the same imply nothing, though their bounds would.
func TestA6OtherForms(t *testing.T) {
	l := table(most("1", "1", 0), most("2", "1", 1), most("3", "1", 0, "1", 1), most("4", "1", 0, "-1", 1), most("5", "1", 0, "2", 1), most("6", "2", 0, "1", 1), most("7", "1", -1), most("8", "1", 0, "1", 1, "1", 2))
	for _, a := range literals(l) {
		for _, b := range literals(l) {
			wantImplies(t, l, a, b, a == b || a == -1 || b == 1)
		}
	}
}

// Long numbers, of which the last limb tells.
func TestA6LongBounds(t *testing.T) {
	const low, high = "100000000000000000000000000000000000000/3", "100000000000000000000000000000000000001/3"
	l := table(most(high, "1", 0), most(low, "1", 0), most("-"+low, "1", 0), most("-"+high, "1", 0))
	for _, c := range [][2]int{{3, 2}, {4, 3}, {5, 4}, {5, 2}, {-2, -3}, {-3, -4}, {-4, -5}} {
		wantImplies(t, l, c[0], c[1], true)
		wantImplies(t, l, c[1], c[0], false)
	}
}

// isSo is A6's words: of inequalities of one Form it is asked of the bounds, of numbers between them and of some beyond.
func isSo(l []api.Atom, a, b int) bool {
	if a == b || b == 1 || a == -1 {
		return true
	}
	x, y := l[max(a, -a)-1], l[max(b, -b)-1]
	if len(x.Form) == 0 || len(y.Form) == 0 || toldForm(x.Form) != toldForm(y.Form) {
		return false
	}
	one := table(api.Atom{Form: form("1", 0), Bound: x.Bound, Strict: x.Strict}, api.Atom{Form: form("1", 0), Bound: y.Bound, Strict: y.Strict})
	for _, at := range around(x.Bound, y.Bound) {
		if truth(one, 2*sign(a), []api.Rat{at}, nil) && !truth(one, 3*sign(b), []api.Rat{at}, nil) {
			return false
		}
	}
	return true
}

// around is two numbers, what lies in the middle, and what lies beyond both on each side.
func around(a, b api.Rat) []api.Rat {
	x, y := ratIn(a), ratIn(b)
	sum := new(big.Rat).Add(x, y)
	far := new(big.Rat).Add(new(big.Rat).Abs(x), new(big.Rat).Abs(y))
	far.Add(far, big.NewRat(1, 1))
	return []api.Rat{a, b, of(sum.Mul(sum, big.NewRat(1, 2))), of(far), of(new(big.Rat).Neg(far))}
}

func sign(lit int) int {
	if lit < 0 {
		return -1
	}
	return 1
}

func TestA6Drawn(t *testing.T) {
	r := rand.New(rand.NewSource(6))
	found := 0
	for range 1500 {
		l := someTable(r)
		for _, a := range literals(l) {
			for _, b := range literals(l) {
				want := isSo(l, a, b)
				wantImplies(t, l, a, b, want)
				if want && a != b && a != -1 && b != 1 {
					found++
				}
			}
		}
	}
	if found < 500 {
		t.Fatalf("%d literals that imply others alone", found)
	}
}
