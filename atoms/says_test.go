package atoms_test

import (
	"math"
	"math/big"
	"math/rand"
	"testing"

	"fulcrum/api"
)

// noLiterals are what the table of so many atoms has not.
func noLiterals(atoms int) []int {
	return []int{0, atoms + 1, -atoms - 1, atoms + 2, 1 << 32, -1 << 32, 1<<32 + 1, math.MaxInt, -math.MaxInt, math.MinInt, math.MinInt + 1}
}

func TestA4A5A6A7NoLiterals(t *testing.T) {
	for _, l := range [][]api.Atom{table(), table(named("p")), plain()} {
		for _, lit := range noLiterals(len(l)) {
			const what = "which the table has not"
			wantSaysNothing(t, what, l, lit)
			wantNotHeld(t, what, l, lit, nums("1", "2"), truths("p", "q"), api.ErrAtom)
			wantNotHeld(t, what, l, lit, nil, nil, api.ErrAtom)
			for _, other := range append(literals(l), lit, 0) {
				wantNotImplied(t, what, l, lit, other)
				wantNotImplied(t, what, l, other, lit)
			}
			wantNoText(t, what, l, lit)
		}
	}
}

func TestA4TrueAtom(t *testing.T) {
	for _, l := range [][]api.Atom{table(), plain()} {
		wantSays(t, l, 1, affine("0"), false)
		wantSays(t, l, -1, affine("0"), true)
	}
}

func TestA4Constants(t *testing.T) {
	l := plain()
	for _, lit := range []int{2, -2, 6, -6} {
		wantSaysNothing(t, "a Bool constant", l, lit)
	}
}

func TestA4Inequalities(t *testing.T) {
	l := plain()
	wantSays(t, l, 3, affine("-3/2", "1", 0), false)
	wantSays(t, l, -3, affine("3/2", "-1", 0), true)
	wantSays(t, l, 4, affine("-3/2", "1", 0), true)
	wantSays(t, l, -4, affine("3/2", "-1", 0), false)
	wantSays(t, l, 5, affine("0", "1", 0, "-2", 1), true)
	wantSays(t, l, -5, affine("0", "-1", 0, "2", 1), false)
	wantSays(t, l, 7, affine("7", "2", -3, "3", 0), false)
	wantSays(t, l, -7, affine("-7", "-2", -3, "-3", 0), true)
}

func TestA4Drawn(t *testing.T) {
	r := rand.New(rand.NewSource(4))
	for range 1000 {
		l := someTable(r)
		for _, lit := range literals(l) {
			a, denied := l[max(lit, -lit)-1], lit < 0
			if a.Name != "" {
				wantSaysNothing(t, "a Bool constant", l, lit)
				continue
			}
			minus := of(new(big.Rat).Neg(ratIn(a.Bound)))
			want := api.Affine{Form: a.Form, Const: minus}
			if denied {
				want = api.Affine{Const: a.Bound}
				for _, part := range a.Form {
					want.Form = append(want.Form, api.Mono{Var: part.Var, Coef: turned(part.Coef)})
				}
			}
			wantSays(t, l, lit, want, a.Strict != denied)
		}
	}
}
