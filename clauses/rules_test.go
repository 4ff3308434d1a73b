package clauses_test

import (
	"fmt"
	"math/rand"
	"strings"
	"sync"
	"testing"
	"unsafe"

	"fulcrum/api"
	"fulcrum/atoms"
	"fulcrum/clauses"
	"fulcrum/terms"
)

// wild is ints of all kinds.
func wild(r *rand.Rand) api.Clause {
	ints := []int{0, 1, -1, 2, -2, 3, -3, 7, 40, -40, 1 << 40, most, least, most - 1, under, under + 2}
	var out api.Clause
	for range r.Intn(6) {
		out = append(out, ints[r.Intn(len(ints))])
	}
	if r.Intn(3) > 0 {
		out = drawn(r, 4, 5)
	}
	return out
}

// A panic would end the test, and so would a call that does not end: any arguments; beside an error there is nothing.
func TestR1AnyArguments(t *testing.T) {
	const letters = "p cnf10-\n\tc \xff\r29"
	r := rand.New(rand.NewSource(189))
	ints := []int{0, 1, -1, 2, 3, 4, 9, 1 << 40, most, least, under}
	errors := 0
	beside := func(what string, e api.Errno, isNothing bool) {
		if e != api.OK && !isNothing {
			t.Fatalf("%s: something beside the error %d", what, e)
		}
		if e != api.OK {
			errors++
		}
	}
	for range 20000 {
		a, b, n := wild(r), wild(r), ints[r.Intn(len(ints))]
		l := []api.Clause{wild(r), a, b}[:r.Intn(4)]
		c, both, e := clauses.Norm(a)
		beside("Norm", e, len(c) == 0 && !both)
		at, e := clauses.Holds(l, make([]bool, r.Intn(5)))
		beside("Holds", e, at == 0)
		c, e = clauses.Resolve(a, b, n)
		beside("Resolve", e, len(c) == 0)
		clauses.Covers(a, b)
		text, e := clauses.Dimacs(n, l)
		beside("Dimacs", e, text == "")
		bytes := make([]byte, r.Intn(20))
		for i := range bytes {
			bytes[i] = letters[r.Intn(len(letters))]
		}
		count, l, e, line := clauses.Parse(string(bytes))
		beside("Parse", e, count == 0 && len(l) == 0 && 0 <= line && line <= len(bytes))
	}
	if errors < 20000 {
		t.Fatal("so few errors", errors)
	}
}

// Any terms of any bank, those that may not be made clauses too, over any tables.
func TestR1AnyTerms(t *testing.T) {
	wrong := wrongTables()
	for seed := range int64(40) {
		w := draw(t, seed, 12)
		for _, text := range []string{"(xor p q)", "(= x y)", "(ite p x y)", "(< (ite p x y) x)", "(and q p true)", "(distinct p q r)", "(* 2 (+ x 1))"} {
			read(t, w.bank, text)
		}
		w.bank.Stand(0)
		w.bank.Stand(w.pool[len(w.pool)-1])
		was := dump(w.bank)
		for n := -2; n < w.bank.Len()+2; n++ {
			for _, l := range [][]api.Atom{w.someTable(), wrong["nil"], wrong["a name twice"]} {
				x, e := clauses.Encode(w.bank, l, n)
				if e != api.OK {
					wantText(t, "beside the error", tellEncoded(x), tellEncoded(api.Encoded{}))
				} else {
					wantShape(t, refOf(w.bank), n, x)
				}
			}
		}
		wantText(t, "the bank", dump(w.bank), was)
	}
}

// Where something is not so, the first line of which that is true is told; where several things are wrong in one call, there is one error for them.
func TestR2OrderOfErrors(t *testing.T) {
	wantNoParse(t, "p cnf 1 1\n2 x 0 0 0\n-\n", 2)
	wantNoParse(t, "p cnf -1 -1\nx\n", 1)
	wantNoParse(t, "p cnf 1 2\n1\n2 0\n", 3)
	wantNoDimacs(t, -1, list(lits(0, under), lits(7)))
	wantNotHeld(t, list(nil, lits(0), lits(under)), nil)
	for i, a := range list(lits(1, 2), lits(2), lits(1, 0)) {
		for j, b := range list(lits(-1, 3), lits(3), lits(-1, under)) {
			for k, atom := range []int{1, 0, -1} {
				if i+j+k == 0 {
					wantResolve(t, a, b, atom, lits(2, 3))
				} else {
					wantNotResolved(t, a, b, atom)
				}
			}
		}
	}
}

// spoil writes over all that there is in an answer, and behind its lists' ends.
func spoil(x api.Encoded) {
	limbs := func(n api.Nat) {
		for i := range n[:cap(n)] {
			n[:cap(n)][i] = 77
		}
	}
	table := x.Atoms[:cap(x.Atoms)]
	for i, a := range table {
		limbs(a.Bound.Num.Abs)
		limbs(a.Bound.Den)
		for _, part := range a.Form {
			limbs(part.Coef.Num.Abs)
			limbs(part.Coef.Den)
		}
		for k := range a.Form[:cap(a.Form)] {
			a.Form[:cap(a.Form)][k] = api.Mono{Var: -77}
		}
		table[i] = api.Atom{Name: "spoilt"}
	}
	all := x.Clauses[:cap(x.Clauses)]
	for i, c := range all {
		for k := range c[:cap(c)] {
			c[:cap(c)][k] = 77
		}
		all[i] = lits(77)
	}
}

// An answer is its owner's: what is done to it changes neither the bank, nor the table that was handed in, nor another answer; and what is done to that table changes no answer.
func TestR3AnswersAreNewMemory(t *testing.T) {
	for seed := range int64(30) {
		w := draw(t, seed, 20)
		n := w.pool[len(w.pool)-1]
		l := encoded(t, w.bank, w.someTable(), w.pool[len(w.pool)-2]).Atoms
		was, had := dump(w.bank), tellTable(l)
		first, second := encoded(t, w.bank, l, n), encoded(t, w.bank, l, n)
		said := tellEncoded(second)
		spoil(first)
		wantText(t, "another answer", tellEncoded(second), said)
		wantText(t, "the table", tellTable(l), had)
		wantText(t, "the bank", dump(w.bank), was)
		wantText(t, "what is answered then", tellEncoded(encoded(t, w.bank, l, n)), said)
		spoil(api.Encoded{Atoms: l})
		wantText(t, "an answer", tellEncoded(second), said)
	}
}

// Each clause of an answer is a list of its own, with its spare room; so are those that Parse tells.
func TestR3ListsOfOneAnswer(t *testing.T) {
	b := bank(t)
	x := encoded(t, b, atoms.New(), normal(t, b, "(ite (and p q) (= r s) (or p (< x 1)))"))
	wantApart(t, x.Clauses)
	_, l, e, _ := clauses.Parse("p cnf 9 6\n1 2 3 0 4 0 0\n5 6\n7 8 9 0 0 1 0\n")
	wantErr(t, "Parse", e, api.OK)
	wantApart(t, l)
}

func wantApart(t *testing.T, l []api.Clause) {
	t.Helper()
	was := fmt.Sprint(l)
	for i, c := range l {
		full := c[:cap(c)]
		kept := append(api.Clause{}, full...)
		for k := range full {
			full[k] = 77
		}
		copy(full, kept[:len(c)])
		wantText(t, fmt.Sprint("the clauses behind the end of ", i), fmt.Sprint(l), was)
		copy(full, kept)
	}
}

// The room behind the end of what is handed in is neither looked at nor changed.
func TestR3RoomBehind(t *testing.T) {
	b := bank(t)
	long := table(named("q"), named("p"), named("behind"))
	had := tellTable(long)
	x := encoded(t, b, long[:2], 0)
	wantTable(t, "the table", x.Atoms, table(named("q"), named("p")))
	encoded(t, b, long[:2], normal(t, b, "(and r s)"))
	wantText(t, "what was handed in", tellTable(long), had)
	c := lits(3, -1, 3, 1, 0, under)
	wantNorm(t, c[:4], lits(1, -1, 3), true)
	wantResolve(t, c[:4], c[1:2], 1, lits(-1, 3))
	wantResolve(t, c[3:4], c[1:2], 1, nil)
	wantCovers(t, c[:1], c[2:3], true)
	wantHolds(t, list(c[:1], c[1:2], lits(0))[:2], []bool{true, true, true, true, true}, 1)
	wantDimacs(t, 3, list(c[:4], lits(0))[:1], "p cnf 3 1\n3 -1 3 1 0\n")
	wantClause(t, "what was handed in", c, lits(3, -1, 3, 1, 0, under))
}

// Names that are told are no pieces of one another, nor of what was handed in, nor of what the bank keeps.
func TestR3NamesAreNewMemory(t *testing.T) {
	seen := map[*byte]bool{}
	fresh := func(text string) {
		t.Helper()
		if at := unsafe.StringData(text); text != "" && seen[at] {
			t.Fatalf("%q shares its memory", text)
		} else {
			seen[at] = true
		}
	}
	b := terms.New()
	kid := declare(t, b, strings.Repeat("p", 20), api.SortBool)
	n := add(t, b, api.TermOr, kid, declare(t, b, strings.Repeat("q", 20), api.SortBool))
	l := table(named(strings.Repeat("r", 20)), named(strings.Repeat("p", 20)))
	for _, a := range l {
		fresh(a.Name)
	}
	for range 3 {
		for _, a := range encoded(t, b, l, n).Atoms {
			fresh(a.Name)
		}
	}
	first, _ := clauses.Dimacs(1, nil)
	second, _ := clauses.Dimacs(1, nil)
	fresh(first)
	fresh(second)
}

// nil and the empty list are the same.
func TestR3NilIsTheEmptyList(t *testing.T) {
	for _, none := range []api.Clause{nil, {}} {
		wantNorm(t, none, nil, false)
		wantNotResolved(t, none, lits(-1), 1)
		wantCovers(t, none, none, true)
		wantHolds(t, list(none), nil, 0)
		wantDimacs(t, 0, list(none), "p cnf 0 1\n0\n")
	}
	wantNotEncoded(t, "no table", bank(t), []api.Atom{}, 0, api.ErrAtom)
	wantNotEncoded(t, "no table", bank(t), nil, 0, api.ErrAtom)
}

// The calls know nothing of one another: in turn and beside one another, on one bank, they tell what they tell alone.
func TestR4TheSameAgain(t *testing.T) {
	w := draw(t, 7, 30)
	var tables [][]api.Atom
	for range 10 {
		tables = append(tables, w.someTable())
	}
	tell := func() string {
		var out strings.Builder
		for _, l := range tables {
			for _, n := range w.pool {
				x, e := clauses.Encode(w.bank, l, n)
				text, bad := clauses.Dimacs(len(x.Atoms), x.Clauses)
				count, all, none, at := clauses.Parse(text)
				fmt.Fprint(&out, tellEncoded(x), e, text, bad, count, all, none, at)
			}
		}
		return out.String()
	}
	first := tell()
	wantText(t, "again", tell(), first)
	var wait sync.WaitGroup
	for range 4 {
		wait.Go(func() {
			if tell() != first {
				t.Error("beside others something else is told")
			}
		})
	}
	wait.Wait()
}
