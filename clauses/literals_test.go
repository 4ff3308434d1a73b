package clauses_test

import (
	"math/rand"
	"slices"
	"testing"

	"fulcrum/api"
	"fulcrum/clauses"
)

func TestC1Norm(t *testing.T) {
	wantNorm(t, nil, nil, false)
	wantNorm(t, lits(), nil, false)
	wantNorm(t, lits(1), lits(1), false)
	wantNorm(t, lits(-7), lits(-7), false)
	wantNorm(t, lits(2, 1), lits(1, 2), false)
	wantNorm(t, lits(2, -1, 3), lits(-1, 2, 3), false)
	wantNorm(t, lits(-10, -9, 2, -3), lits(2, -3, -9, -10), false)
	wantNorm(t, lits(1, 2, 3), lits(1, 2, 3), false)
}

func TestC1NormOfLiteralsManyTimes(t *testing.T) {
	wantNorm(t, lits(4, 4), lits(4), false)
	wantNorm(t, lits(-4, -4, -4), lits(-4), false)
	wantNorm(t, lits(5, -4, 5, -4, 5), lits(-4, 5), false)
	wantNorm(t, slices.Repeat(lits(3, -2), 500), lits(-2, 3), false)
}

func TestC1NormOfBothLiterals(t *testing.T) {
	wantNorm(t, lits(1, -1), lits(1, -1), true)
	wantNorm(t, lits(-1, 1), lits(1, -1), true)
	wantNorm(t, lits(-2, 1, 2, -1, -2), lits(1, -1, 2, -2), true)
	wantNorm(t, lits(-3, 2, 3), lits(2, 3, -3), true)
	wantNorm(t, lits(-5, 4, -3, 3), lits(3, -3, 4, -5), true)
	wantNorm(t, lits(-2, 1, 3), lits(1, -2, 3), false)
}

func TestC1NormOfWhatIsNoLiteral(t *testing.T) {
	for _, c := range []api.Clause{{0}, {under}, {1, 0}, {0, 1}, {1, -1, under}, {under, 1}, {1, 2, 0, 3}, {1, -1, 0}} {
		wantNotNorm(t, c)
	}
	wantNorm(t, lits(least, 1, most), lits(1, most, least), true)
	wantNorm(t, lits(least, 1, least), lits(1, least), false)
	wantNorm(t, lits(most, -(most-1)), lits(-(most-1), most), false)
}

// drawn is literals of few atoms, so that many are alike.
func drawn(r *rand.Rand, atoms, most int) api.Clause {
	var out api.Clause
	for range r.Intn(most + 1) {
		lit := 1 + r.Intn(atoms)
		if r.Intn(2) == 0 {
			lit = -lit
		}
		out = append(out, lit)
	}
	return out
}

// refNorm goes over the atoms by their numbers, and asks for each literal.
func refNorm(c api.Clause, atoms int) (api.Clause, bool) {
	var out api.Clause
	both := false
	for atom := 1; atom <= atoms; atom++ {
		with, against := slices.Contains(c, atom), slices.Contains(c, -atom)
		if with {
			out = append(out, atom)
		}
		if against {
			out = append(out, -atom)
		}
		both = both || with && against
	}
	return out, both
}

func TestC1NormOfAny(t *testing.T) {
	r := rand.New(rand.NewSource(18))
	for range 5000 {
		c := drawn(r, 8, 12)
		want, both := refNorm(c, 8)
		wantNorm(t, c, want, both)
		wantNorm(t, want, want, both)
	}
}

func TestC1Holds(t *testing.T) {
	values := []bool{false, false, true, true}
	wantHolds(t, list(lits(1, 2), lits(-3)), values, 1)
	wantHolds(t, list(lits(2), lits(3, 1), lits(-1)), values, -1)
	wantHolds(t, list(lits(1), lits(-2)), values, 0)
	wantHolds(t, list(lits(2), lits(-1), lits(1, -2, -3), lits(1)), values, 2)
	wantHolds(t, list(lits(1, -1)), values, -1)
	wantHolds(t, list(lits(1, 1, 1, -2)), values, 0)
}

func TestC1HoldsWithTooFewValues(t *testing.T) {
	for _, values := range [][]bool{nil, {}, {true}, {true, false}, {false, false, false}} {
		wantHolds(t, list(lits(-9)), values, -1)
		wantHolds(t, list(lits(9)), values, 0)
		wantHolds(t, list(lits(-1), lits(-1, 2), lits(1)), values, 2)
		wantHolds(t, list(lits(least)), values, -1)
		wantHolds(t, list(lits(-1), lits(most)), values, 1)
	}
	wantHolds(t, list(lits(1)), []bool{true}, 0) // the first place counts for nothing
	wantHolds(t, list(lits(1), lits(2)), []bool{false, true}, 1)
	wantHolds(t, list(lits(1), lits(2)), []bool{false, true, true}, -1)
}

func TestC1HoldsOfNothing(t *testing.T) {
	for _, values := range [][]bool{nil, {}, {true, true}} {
		wantHolds(t, nil, values, -1)
		wantHolds(t, list(), values, -1)
		wantHolds(t, list(nil), values, 0)
		wantHolds(t, list(lits()), values, 0)
		wantHolds(t, list(lits(-5), lits(), lits(5)), values, 1)
	}
}

func TestC1HoldsOfWhatIsNoLiteral(t *testing.T) {
	for _, l := range [][]api.Clause{
		{{0}}, {{under}}, {{1}, {0}}, {{1, 2, under}}, // behind what is true
		{{-1}, {1, 0}}, {{}, {0}}, {{1}, {2}, {3}, {4, -5, under}}, // behind a clause that is not true
	} {
		for _, values := range [][]bool{nil, {true, true, true, true, true, true}} {
			wantNotHeld(t, l, values)
		}
	}
}

// refTrue is whether a clause is true: one of its literals is.
func refTrue(c api.Clause, values []bool) bool {
	for _, lit := range c {
		if lit > 0 && lit < len(values) && values[lit] {
			return true
		}
		if lit < 0 && (-lit >= len(values) || !values[-lit]) {
			return true
		}
	}
	return false
}

func TestC1HoldsOfAny(t *testing.T) {
	r := rand.New(rand.NewSource(181))
	for range 5000 {
		var l []api.Clause
		for range r.Intn(6) {
			l = append(l, drawn(r, 6, 4))
		}
		values := make([]bool, r.Intn(9))
		for i := range values {
			values[i] = r.Intn(2) == 0
		}
		wantHolds(t, l, values, slices.IndexFunc(l, func(c api.Clause) bool { return !refTrue(c, values) }))
	}
}

func TestC1Resolve(t *testing.T) {
	wantResolve(t, lits(1, 2), lits(-1, 3), 1, lits(2, 3))
	wantResolve(t, lits(1), lits(-1), 1, nil)
	wantResolve(t, lits(5, 4, 3), lits(3, -4, 1), 4, lits(1, 3, 5))
	wantResolve(t, lits(2, 1, 2, 2), lits(-1, 2, -1), 1, lits(2))
	wantResolve(t, lits(7, 7), lits(-7, -7, -2), 7, lits(-2))
	wantResolve(t, lits(1, -2), lits(-1, 2), 1, lits(2, -2))
	wantResolve(t, lits(most, -3), lits(least), most, lits(-3))
}

func TestC1ResolveOfClausesThatHaveBoth(t *testing.T) {
	wantResolve(t, lits(1, -1), lits(-1), 1, lits(-1))
	wantResolve(t, lits(1), lits(1, -1), 1, lits(1))
	wantResolve(t, lits(-1, 1), lits(-1, 1), 1, lits(1, -1))
	wantResolve(t, lits(1, -1, 2), lits(3, 1, -1), 1, lits(1, -1, 2, 3))
	wantResolve(t, lits(1, 2, -2), lits(-1, 3), 1, lits(2, -2, 3))
}

func TestC1ResolveOfWhatMayNotBe(t *testing.T) {
	wantNotResolved(t, lits(1), lits(1), 1)
	wantNotResolved(t, lits(-1), lits(1), 1) // the other way round
	wantNotResolved(t, lits(-1), lits(-1), 1)
	wantNotResolved(t, lits(2), lits(-1), 1)
	wantNotResolved(t, lits(1), lits(-2), 1)
	wantNotResolved(t, nil, lits(-1), 1)
	wantNotResolved(t, lits(1), nil, 1)
	wantNotResolved(t, nil, nil, 1)
	for _, atom := range []int{0, -1, -2, least, under} {
		wantNotResolved(t, lits(1, -1, 2), lits(1, -1, -2), atom)
		wantNotResolved(t, lits(atom), lits(-atom), atom)
	}
	for _, bad := range []int{0, under} {
		wantNotResolved(t, lits(1, bad), lits(-1), 1)
		wantNotResolved(t, lits(1), lits(-1, bad), 1)
		wantNotResolved(t, lits(bad, 1), lits(bad, -1), 1)
	}
	wantNotResolved(t, lits(1, 2), lits(-1, 3), 4)
	wantNotResolved(t, lits(1, 2), lits(-1, 3), most)
}

func TestC1Covers(t *testing.T) {
	wantCovers(t, lits(1), lits(2, 1), true)
	wantCovers(t, lits(2, 1), lits(1), false)
	wantCovers(t, lits(1), lits(-1), false)
	wantCovers(t, lits(1, -1), lits(1), false)
	wantCovers(t, lits(1, 1, 1), lits(1), true)
	wantCovers(t, lits(3, -2, 3), lits(5, -2, 4, 3), true)
	wantCovers(t, lits(3, -2, 6), lits(5, -2, 4, 3), false)
	wantCovers(t, lits(least, most), lits(most, 1, least), true)
	wantCovers(t, lits(least), lits(most, 1), false)
}

func TestC1CoversOfEmptyClauses(t *testing.T) {
	for _, none := range []api.Clause{nil, {}} {
		wantCovers(t, none, nil, true)
		wantCovers(t, none, lits(), true)
		wantCovers(t, none, lits(1, 2), true)
		wantCovers(t, lits(1), none, false)
	}
}

func TestC1CoversOfAny(t *testing.T) {
	r := rand.New(rand.NewSource(182))
	for range 5000 {
		a, b := drawn(r, 5, 4), drawn(r, 5, 9)
		want := true
		for _, lit := range a {
			want = want && slices.Contains(b, lit)
		}
		wantCovers(t, a, b, want)
	}
}

// Clauses of so many literals that pairs of them would be too many.
func TestC1LongClauses(t *testing.T) {
	const many = 300000
	var up, down api.Clause
	for i := range many {
		up = append(up, i+1)
		down = append(down, -(many - i))
	}
	wantCovers(t, up, append(slices.Clone(up), 0), true)
	wantCovers(t, up, down, false)
	got, both, e := clauses.Norm(append(slices.Clone(down), up...))
	wantErr(t, "Norm", e, api.OK)
	wantTruth(t, "both", both, true)
	wantInt(t, "the literals", len(got), 2*many)
	got, e = clauses.Resolve(up, down, 7)
	wantErr(t, "Resolve", e, api.OK)
	wantInt(t, "the literals", len(got), 2*many-2)
	wantHolds(t, list(up, down), nil, 0)
}
