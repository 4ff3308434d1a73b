package atoms_test

import (
	"math/rand"
	"testing"

	"fulcrum/api"
)

func TestA5TrueAtom(t *testing.T) {
	for _, l := range [][]api.Atom{table(), plain()} {
		for _, vals := range [][]api.Rat{nil, nums("5", "-7", "1/2")} {
			wantHolds(t, l, 1, vals, nil, true)
			wantHolds(t, l, -1, vals, falsehoods("", "p"), false)
		}
	}
}

// wantBoth: a literal is true just where this says so, and its opposite where not.
func wantBoth(t *testing.T, l []api.Atom, lit int, vals []api.Rat, names []api.Binding, want bool) {
	t.Helper()
	wantHolds(t, l, lit, vals, names, want)
	wantHolds(t, l, -lit, vals, names, !want)
}

func TestA5Inequalities(t *testing.T) {
	l := plain()
	for _, c := range []struct {
		lit  int
		vals []api.Rat
		want bool
	}{
		{3, nums("1"), true}, {3, nums("3/2"), true}, {3, nums("2"), false}, {4, nums("1"), true}, {4, nums("3/2"), false}, {4, nums("2"), false},
		{3, nums("3000000000000000000000000001/2000000000000000000000000000"), false}, {4, nums("2999999999999999999999999999/2000000000000000000000000000"), true},
		{5, nums("1", "1"), true}, {5, nums("2", "1"), false}, {5, nums("3", "1"), false}, {5, nums("-1", "-1/2"), false}, {5, nums("-1", "-1/3"), true},
		{3, []api.Rat{raw(false, api.Nat{6, 0}, api.Nat{4})}, true}, {4, []api.Rat{raw(false, api.Nat{6, 0}, api.Nat{4})}, false}, {3, []api.Rat{raw(false, api.Nat{99}, nil)}, true}, {3, []api.Rat{raw(true, api.Nat{99}, api.Nat{1})}, true},
	} {
		wantBoth(t, l, c.lit, c.vals, nil, c.want)
		wantBoth(t, l, c.lit, append(c.vals, nums("9", "9", "9")...), truths("p"), c.want) // variables that do not stand there
	}
}

// A variable that has no place has the value 0.
func TestA5TooFewValues(t *testing.T) {
	l := plain()
	wantBoth(t, l, 3, nil, nil, true)                 // 0 <= 3/2
	wantBoth(t, l, 5, nil, nil, false)                // 0 < 0
	wantBoth(t, l, 5, nums("-1"), nil, true)          // -1 < 0
	wantBoth(t, l, 5, nums("1"), nil, false)          // 1 < 0
	wantBoth(t, l, 5, []api.Rat{}, nil, false)        // 0 < 0
	wantBoth(t, l, 5, nums("1", "1")[:1], nil, false) // what lies behind a list's end counts for nothing
	far := table(most("-1", "1", 1<<40))
	wantBoth(t, far, 2, nums("-5"), nil, false)
}

// A variable below 0 has no place in any list.
func TestA5VariablesBelowNought(t *testing.T) {
	l := plain() // 7: 2 x-3 + 3 x0 <= -7
	wantBoth(t, l, 7, nums("-2", "-9", "-9", "-9"), nil, false)
	wantBoth(t, l, 7, nums("-7/3", "9", "9", "9"), nil, true)
	wantBoth(t, l, 7, nil, nil, false)
	alone := table(most("0", "1", -1), under("0", "1", -1))
	wantBoth(t, alone, 2, nums("5", "6"), nil, true)
	wantBoth(t, alone, 3, nums("-5", "-6"), nil, false)
}

func TestA5Constants(t *testing.T) {
	l := plain()
	wantBoth(t, l, 2, nil, truths("p"), true)
	wantBoth(t, l, 2, nil, falsehoods("p"), false)
	wantBoth(t, l, 6, nums("1"), append(falsehoods("p"), truths("q")...), true)
	wantBoth(t, l, 6, nums("1"), append(truths("p"), falsehoods("q")...), false)
}

// Of bindings of one name the first one counts.
func TestA5BoundTwice(t *testing.T) {
	l := plain()
	amount := []api.Binding{{Name: "p", Value: api.Value{Sort: api.SortReal, Bool: true, Real: num("1")}}}
	wantBoth(t, l, 2, nil, append(truths("q", "p"), falsehoods("p")...), true)
	wantBoth(t, l, 2, nil, append(falsehoods("q", "p"), truths("p", "p")...), false)
	wantBoth(t, l, 2, nil, append(truths("p"), amount...), true)
	for _, lit := range []int{2, -2} {
		wantNotHeld(t, "of Real first", l, lit, nil, append(amount, truths("p")...), api.ErrValue)
	}
}

func TestA5NoValue(t *testing.T) {
	l := plain()
	for _, lit := range []int{2, -2} {
		for _, names := range [][]api.Binding{nil, {}, truths("q"), truths("P", "pp", "", " p", "p\x00"), truths("q", "p")[:1]} {
			wantNotHeld(t, "not bound", l, lit, nums("1"), names, api.ErrValue)
		}
		for _, sort := range []int{api.SortNone, api.SortReal, 3, -1, 77} {
			names := []api.Binding{{Name: "p", Value: api.Value{Sort: sort, Bool: true}}}
			wantNotHeld(t, "of another sort", l, lit, nil, names, api.ErrValue)
		}
	}
	for _, lit := range []int{1, 3, 4, 5, 7} { // these hang on no names
		wantHolds(t, l, lit, nums("-9", "9"), []api.Binding{{Name: "p", Value: api.Value{Sort: api.SortReal}}, {}}, true)
	}
}

func TestA5Drawn(t *testing.T) {
	r := rand.New(rand.NewSource(5))
	for range 1500 {
		l := someTable(r)
		vals, names := someVals(r), allTruths(r, l)
		for _, lit := range literals(l) {
			wantHolds(t, l, lit, vals, names, truth(l, lit, vals, names))
		}
	}
}
