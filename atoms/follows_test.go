package atoms_test

import (
	"fmt"
	"math/big"
	"math/rand"
	"testing"

	"fulcrum/api"
	"fulcrum/atoms"
)

// below is the table with an affine form's literal, and that.
func below(t *testing.T, l []api.Atom, f api.Affine, strict bool) ([]api.Atom, int) {
	t.Helper()
	m, lit, e := atoms.Below(l, f, strict)
	wantErr(t, "Below of "+toldAffine(f), e, api.OK)
	return m, lit
}

// onIt is values at which an affine form is 0, if it can be; so that what is strict and what is not are told apart.
func onIt(r *rand.Rand, f api.Affine) []api.Rat {
	vals := someVals(r)
	for v, c := range lineOf(f).coefs {
		if v < 0 || v > 9 {
			continue
		}
		for len(vals) <= v {
			vals = append(vals, someRat(r))
		}
		vals[v] = api.Rat{}
		rest := lineOf(f).at(vals)
		vals[v] = of(rest.Neg(rest.Quo(rest, c)))
		return vals
	}
	return vals
}

// Under all values a literal is true just if the form is at most 0 (or below it), and just if Says' form is.
func TestA8BelowAndSays(t *testing.T) {
	r := rand.New(rand.NewSource(8))
	var seen [2]int
	for i := range 3000 {
		f, strict := someAffine(r), r.Intn(2) == 0
		if i%2 == 0 {
			f = smallAffine(r)
		}
		l, lit := below(t, someTable(r), f, strict)
		g, isStrict, e := atoms.Says(l, lit)
		wantErr(t, "Says", e, api.OK)
		for _, vals := range [][]api.Rat{nil, someVals(r), someVals(r), onIt(r, f), onIt(r, f)} {
			want := lineOf(f).isBelow(vals, strict)
			wantTruth(t, "Says of "+toldAffine(f), lineOf(g).isBelow(vals, isStrict), want)
			wantHolds(t, l, lit, vals, nil, want)
			wantHolds(t, l, -lit, vals, nil, !want)
			if lineOf(f).at(vals).Sign() == 0 {
				seen[0]++
			} else {
				seen[1]++
			}
		}
	}
	if min(seen[0], seen[1]) < 1000 {
		t.Fatalf("values at which a form is 0: %d, others: %d", seen[0], seen[1])
	}
}

// What Says tells, given to Below, is the literal again.
func TestA8SaysAndBelow(t *testing.T) {
	r := rand.New(rand.NewSource(9))
	for range 800 {
		l := someTable(r)
		for _, lit := range literals(l) {
			g, strict, e := atoms.Says(l, lit)
			if e != api.OK {
				continue
			}
			wantBelow(t, l, g, strict, lit, l)
			wantBelow(t, l, times(num("-1"), g), !strict, -lit, l)
		}
	}
}

func TestA8Multiples(t *testing.T) {
	r := rand.New(rand.NewSource(10))
	for range 2000 {
		f, strict, c := someAffine(r), r.Intn(2) == 0, aboveNought(r)
		l, lit := below(t, someTable(r), f, strict)
		l, same := below(t, l, times(c, f), strict)
		wantInt(t, "a multiple by a number above 0 of "+toldAffine(f), same, lit)
		l, other := below(t, l, times(turned(c), f), !strict)
		wantInt(t, "a multiple by a number below 0 of "+toldAffine(f), other, -lit)
		wantErr(t, "Check", atoms.Check(l), api.OK)
	}
}

// The table only grows, at its end, and what its literals said they say.
func TestA8TheTableGrows(t *testing.T) {
	r := rand.New(rand.NewSource(11))
	for range 60 {
		l := atoms.New()
		for range 40 {
			was, size := told(l), len(l)
			var said []string
			for _, lit := range literals(l) {
				said = append(said, toldLiteral(l, lit))
			}
			if r.Intn(3) == 0 {
				m, lit, e := atoms.Name(l, fmt.Sprint("c", r.Intn(8)))
				wantErr(t, "Name", e, api.OK)
				wantTruth(t, "a literal of the table", lit >= 2 && lit <= len(m), true)
				l = m
			} else {
				l, _ = below(t, l, smallAffine(r), r.Intn(2) == 0)
			}
			wantErr(t, "Check", atoms.Check(l), api.OK)
			wantTruth(t, "one more at most", len(l) == size || len(l) == size+1, true)
			wantText(t, "the old atoms", told(l[:size]), was)
			for i, lit := range literals(l[:size]) {
				wantText(t, "an old literal", toldLiteral(l, lit), said[i])
			}
		}
	}
}

// toldLiteral is all that is told of a literal.
func toldLiteral(l []api.Atom, lit int) string {
	g, strict, e := atoms.Says(l, lit)
	text, wrong := atoms.Text(l, lit)
	holds, none := atoms.Holds(l, lit, nums("1", "-1/2"), truths("c0", "c3"))
	return fmt.Sprint(toldAffine(g), strict, e, text, wrong, holds, none)
}

// Implies is right: no values make the one true and the other false.
func TestA8ImpliesIsRight(t *testing.T) {
	r := rand.New(rand.NewSource(12))
	for range 600 {
		l := someTable(r)
		vals, names := someVals(r), allTruths(r, l)
		for _, a := range literals(l) {
			for _, b := range literals(l) {
				is, e := atoms.Implies(l, a, b)
				wantErr(t, "Implies", e, api.OK)
				if is && truth(l, a, vals, names) && !truth(l, b, vals, names) {
					t.Fatalf("%d implies %d in %s, but not at %v, %v", a, b, told(l), vals, names)
				}
			}
		}
	}
}

// Of inequalities of one form it misses nothing: where it says no, some number is as the one says and not as the other does.
func TestA8ImpliesMissesNothing(t *testing.T) {
	l := table()
	for _, at := range []string{"-2", "-1", "-1/2", "0", "1/3", "1/2", "1", "2"} {
		l = append(l, most(at, "1", 0), under(at, "1", 0))
	}
	var points []api.Rat
	for i := -36; i <= 36; i++ { // all bounds are sixths
		points = append(points, of(big.NewRat(int64(i), 12)))
	}
	for _, a := range literals(l) {
		for _, b := range literals(l) {
			want := true
			for _, at := range points {
				want = want && (!truth(l, a, []api.Rat{at}, nil) || truth(l, b, []api.Rat{at}, nil))
			}
			wantImplies(t, l, a, b, want)
		}
	}
}
