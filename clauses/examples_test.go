package clauses_test

import (
	"strconv"
	"testing"

	"fulcrum/api"
	"fulcrum/atoms"
	"fulcrum/terms"
)

func TestExample1(t *testing.T) {
	wantNorm(t, lits(3, -1, 3, 1), lits(1, -1, 3), true)
	wantResolve(t, lits(1, 2), lits(-1, 3), 1, lits(2, 3))
	wantCovers(t, lits(1), lits(2, 1), true)
	wantHolds(t, list(lits(1, 2), lits(-3)), []bool{true, false, true, true}, 1)
	wantHolds(t, list(lits(1, 2), lits(-3)), []bool{false, false, true, true}, 1)
}

func TestExample2(t *testing.T) {
	b := terms.New()
	p, q := declare(t, b, "p", api.SortBool), declare(t, b, "q", api.SortBool)
	wantLit(t, b, atoms.New(), p, 2, table(named("p")))
	for b.Len() < 5 {
		whole(t, b, b.Len())
	}
	or := add(t, b, api.TermOr, p, q)
	wantInt(t, "its term", or, 5)
	x := encoded(t, b, atoms.New(), or)
	wantText(t, "the atoms", tellTable(x.Atoms), tellTable(table(named("p"), named("q"), named("\x005"))))
	wantClauses(t, "the clauses", x.Clauses, list(lits(2, 3, -4), lits(-2, 4), lits(-3, 4)))
	wantInt(t, "the literal", x.Lit, 4)
	wantText(t, "the definition's name", stand(t, b, or), "\x00"+strconv.Itoa(or))
}

func TestExample3(t *testing.T) {
	wantDimacs(t, 3, list(lits(1, -2), nil), "p cnf 3 2\n1 -2 0\n0\n")
	wantParse(t, "c x\np cnf 2 1\n1\n-2 0\n", 2, list(lits(1, -2)))
	wantParse(t, "c x\np cnf 2 1\n1\n-2 0", 2, list(lits(1, -2)))
	wantNoParse(t, "p cnf 1 1\n2 0", 2)
	wantNoParse(t, "p cnf 1 1\n1", 2)
}
