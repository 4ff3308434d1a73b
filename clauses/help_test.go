package clauses_test

import (
	"fmt"
	"math"
	"slices"
	"strings"
	"testing"

	"fulcrum/api"
	"fulcrum/atoms"
	"fulcrum/clauses"
	"fulcrum/ratio"
	"fulcrum/sexpr"
	"fulcrum/simplify"
	"fulcrum/terms"
)

// The ends of what may be a literal, and the int below them.
const (
	most  = math.MaxInt
	least = -math.MaxInt
	under = math.MinInt
)

func wantErr(t *testing.T, what string, got, want api.Errno) {
	t.Helper()
	if got != want {
		t.Fatalf("%s: the error %d, not %d", what, got, want)
	}
}

func wantInt(t *testing.T, what string, got, want int) {
	t.Helper()
	if got != want {
		t.Fatalf("%s: %d, not %d", what, got, want)
	}
}

func wantText(t *testing.T, what, got, want string) {
	t.Helper()
	if got != want {
		t.Fatalf("%s: %q, not %q", what, got, want)
	}
}

func wantTruth(t *testing.T, what string, got, want bool) {
	t.Helper()
	if got != want {
		t.Fatalf("%s: %v, not %v", what, got, want)
	}
}

// lits is a clause, and list is several.
func lits(l ...int) api.Clause { return l }

func list(l ...api.Clause) []api.Clause { return l }

func wantClause(t *testing.T, what string, got, want api.Clause) {
	t.Helper()
	if !slices.Equal(got, want) {
		t.Fatalf("%s: %v, not %v", what, got, want)
	}
}

func wantClauses(t *testing.T, what string, got, want []api.Clause) {
	t.Helper()
	wantText(t, what, fmt.Sprint(got), fmt.Sprint(want))
}

func wantNorm(t *testing.T, c, want api.Clause, both bool) {
	t.Helper()
	got, is, e := clauses.Norm(c)
	wantErr(t, fmt.Sprint("Norm of ", c), e, api.OK)
	wantClause(t, fmt.Sprint("Norm of ", c), got, want)
	wantTruth(t, fmt.Sprint("both, in Norm of ", c), is, both)
}

func wantNotNorm(t *testing.T, c api.Clause) {
	t.Helper()
	got, is, e := clauses.Norm(c)
	wantErr(t, fmt.Sprint("Norm of ", c), e, api.ErrClause)
	wantInt(t, "beside the error", len(got), 0)
	wantTruth(t, "beside the error", is, false)
}

func wantHolds(t *testing.T, l []api.Clause, values []bool, want int) {
	t.Helper()
	got, e := clauses.Holds(l, values)
	wantErr(t, fmt.Sprint("Holds of ", l), e, api.OK)
	wantInt(t, fmt.Sprint("Holds of ", l, " with ", values), got, want)
}

func wantNotHeld(t *testing.T, l []api.Clause, values []bool) {
	t.Helper()
	got, e := clauses.Holds(l, values)
	wantErr(t, fmt.Sprint("Holds of ", l), e, api.ErrClause)
	wantInt(t, "beside the error", got, 0)
}

func wantResolve(t *testing.T, a, b api.Clause, atom int, want api.Clause) {
	t.Helper()
	got, e := clauses.Resolve(a, b, atom)
	wantErr(t, fmt.Sprint("Resolve of ", a, b, atom), e, api.OK)
	wantClause(t, fmt.Sprint("Resolve of ", a, b, atom), got, want)
}

func wantNotResolved(t *testing.T, a, b api.Clause, atom int) {
	t.Helper()
	got, e := clauses.Resolve(a, b, atom)
	wantErr(t, fmt.Sprint("Resolve of ", a, b, atom), e, api.ErrClause)
	wantInt(t, "beside the error", len(got), 0)
}

func wantCovers(t *testing.T, a, b api.Clause, want bool) {
	t.Helper()
	wantTruth(t, fmt.Sprint("Covers of ", a, b), clauses.Covers(a, b), want)
}

func wantDimacs(t *testing.T, count int, l []api.Clause, want string) {
	t.Helper()
	got, e := clauses.Dimacs(count, l)
	wantErr(t, fmt.Sprint("Dimacs of ", count, l), e, api.OK)
	wantText(t, fmt.Sprint("Dimacs of ", count, l), got, want)
}

func wantNoDimacs(t *testing.T, count int, l []api.Clause) {
	t.Helper()
	got, e := clauses.Dimacs(count, l)
	wantErr(t, fmt.Sprint("Dimacs of ", count, l), e, api.ErrClause)
	wantText(t, "beside the error", got, "")
}

func wantParse(t *testing.T, text string, count int, want []api.Clause) {
	t.Helper()
	n, l, e, at := clauses.Parse(text)
	wantErr(t, fmt.Sprintf("Parse of %q, line %d", text, at), e, api.OK)
	wantInt(t, fmt.Sprintf("the atoms of %q", text), n, count)
	wantClauses(t, fmt.Sprintf("the clauses of %q", text), l, want)
	wantInt(t, "the place of no fault", at, 0)
}

func wantNoParse(t *testing.T, text string, line int) {
	t.Helper()
	n, l, e, at := clauses.Parse(text)
	wantErr(t, fmt.Sprintf("Parse of %q", text), e, api.ErrClause)
	wantInt(t, fmt.Sprintf("the line of %q", text), at, line)
	wantInt(t, "beside the error", n, 0)
	wantInt(t, "beside the error", len(l), 0)
}

func declare(t *testing.T, b *terms.Bank, name string, sort int) int {
	t.Helper()
	n, e := b.Declare(name, sort)
	wantErr(t, "Declare of "+name, e, api.OK)
	return n
}

// bank has the constants p 0, q 1, r 2 and s 3 of Bool, x 4, y 5 and z 6 of Real.
func bank(t *testing.T) *terms.Bank {
	t.Helper()
	b := terms.New()
	for _, name := range []string{"p", "q", "r", "s"} {
		declare(t, b, name, api.SortBool)
	}
	for _, name := range []string{"x", "y", "z"} {
		declare(t, b, name, api.SortReal)
	}
	return b
}

// read is the term that a text says, as it says it; normal is its normal form.
func read(t *testing.T, b *terms.Bank, text string) int {
	t.Helper()
	l, e, _ := sexpr.Read(text)
	if e != api.OK || len(l) != 1 {
		t.Fatal("not one S-expression: " + text)
	}
	n, e, _ := b.Read(l[0])
	wantErr(t, "Read of "+text, e, api.OK)
	return n
}

func normal(t *testing.T, b *terms.Bank, text string) int {
	t.Helper()
	n, e := simplify.Normal(b, read(t, b, text))
	wantErr(t, "Normal of "+text, e, api.OK)
	return n
}

func put(t *testing.T, b *terms.Bank, said api.Term) int {
	t.Helper()
	n, e := b.Add(said)
	wantErr(t, fmt.Sprint("Add of the kind ", said.Kind), e, api.OK)
	return n
}

func add(t *testing.T, b *terms.Bank, kind int, kids ...int) int {
	t.Helper()
	return put(t, b, api.Term{Kind: kind, Kids: kids})
}

func whole(t *testing.T, b *terms.Bank, n int) int {
	t.Helper()
	return put(t, b, api.Term{Kind: api.TermNumber, Number: ratio.Whole(int64(n))})
}

func get(t *testing.T, b *terms.Bank, n int) api.Term {
	t.Helper()
	said, e := b.Get(n)
	wantErr(t, fmt.Sprint("Get of ", n), e, api.OK)
	return said
}

// stand is the name of a definition's atom, as layer 14 tells it; the bank stays as it is.
func stand(t *testing.T, b *terms.Bank, n int) string {
	t.Helper()
	other := alike(t, b)
	s, e := other.Stand(n)
	wantErr(t, fmt.Sprint("Stand of ", n), e, api.OK)
	return get(t, other, s).Name
}

// alike is another bank with the same terms.
func alike(t *testing.T, b *terms.Bank) *terms.Bank {
	t.Helper()
	var all []api.Term
	for n := range b.Len() {
		all = append(all, get(t, b, n))
	}
	out, e := terms.Load(all, b.Declared())
	wantErr(t, "Load", e, api.OK)
	return out
}

// dump is all that a bank tells of itself.
func dump(b *terms.Bank) string {
	var out strings.Builder
	fmt.Fprintln(&out, b.Len(), b.Names(), b.Declared())
	for n := range b.Len() {
		t, e := b.Get(n)
		fmt.Fprintln(&out, t.Kind, t.Sort, t.Name, tellRat(t.Number), t.Kids, e)
	}
	return out.String()
}

// tellRat, tellAtom and tellTable are all that there is, limb by limb; a list without anything is the same as none.
func tellRat(r api.Rat) string {
	return fmt.Sprint(r.Num.Neg, []uint32(r.Num.Abs), []uint32(r.Den))
}

func tellAtom(a api.Atom) string {
	out := fmt.Sprintf("%q %v", a.Name, a.Strict)
	for _, part := range a.Form {
		out += fmt.Sprint(" v", part.Var, " ", tellRat(part.Coef))
	}
	return out + " at " + tellRat(a.Bound)
}

// short tells atoms of a table that may be apart: of a Bool constant the name alone, as long tables take long.
func short(a api.Atom) string {
	if a.Name != "" {
		return "the constant " + a.Name
	}
	return tellAtom(a)
}

// wantTable: both are tables that may be.
func wantTable(t *testing.T, what string, got, want []api.Atom) {
	t.Helper()
	if len(got) != len(want) {
		t.Fatalf("%s: %d atoms, not %d", what, len(got), len(want))
	}
	for i, a := range got {
		if short(a) != short(want[i]) {
			t.Fatalf("%s: the atom %d is %s, not %s", what, i+1, tellAtom(a), tellAtom(want[i]))
		}
	}
}

func tellTable(l []api.Atom) string {
	var out strings.Builder
	for _, a := range l {
		fmt.Fprintln(&out, tellAtom(a))
	}
	return out.String()
}

func tellEncoded(x api.Encoded) string {
	return fmt.Sprint(tellTable(x.Atoms), x.Clauses, x.Lit)
}

func named(name string) api.Atom { return api.Atom{Name: name, Bound: ratio.Whole(0)} }

// table is the true atom, and others behind it.
func table(l ...api.Atom) []api.Atom { return append(atoms.New(), l...) }

func wantNotEncoded(t *testing.T, what string, b *terms.Bank, l []api.Atom, n int, want api.Errno) {
	t.Helper()
	x, e := clauses.Encode(b, l, n)
	wantErr(t, "Encode, "+what, e, want)
	wantText(t, "beside the error", tellEncoded(x), tellEncoded(api.Encoded{}))
}

// wantLit: a term is one literal, without clauses; the table with it.
func wantLit(t *testing.T, b *terms.Bank, l []api.Atom, n, lit int, want []api.Atom) {
	t.Helper()
	x := encoded(t, b, l, n)
	wantTable(t, fmt.Sprint("the atoms of ", n), x.Atoms, want)
	wantInt(t, fmt.Sprint("the clauses of ", n), len(x.Clauses), 0)
	wantInt(t, fmt.Sprint("the literal of ", n), x.Lit, lit)
}
