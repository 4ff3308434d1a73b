package clauses_test

import (
	"fmt"
	"math/big"
	"slices"
	"testing"

	"fulcrum/api"
	"fulcrum/atoms"
	"fulcrum/clauses"
	"fulcrum/ratio"
	"fulcrum/terms"
)

// A table may have MaxTerms atoms: what is in it is found, and what is new is refused.
func TestC2EncodeOverFullTables(t *testing.T) {
	b := bank(t)
	known, fresh := declare(t, b, "n7", api.SortBool), declare(t, b, "new", api.SortBool)
	last := declare(t, b, fmt.Sprint("n", api.MaxTerms-1), api.SortBool)
	atom, or := normal(t, b, "(< x 1)"), add(t, b, api.TermOr, 0, 1)
	yes, no := normal(t, b, "true"), normal(t, b, "false")
	full := names(api.MaxTerms)
	for n, lit := range map[int]int{known: 8, last: api.MaxTerms, yes: 1, no: -1, add(t, b, api.TermNot, known): -8} {
		wantLit(t, b, full, n, lit, full)
	}
	both := add(t, b, api.TermOr, known, last)
	for _, n := range []int{fresh, atom, or, both, add(t, b, api.TermNot, fresh), add(t, b, api.TermEqual, known, last)} {
		wantNotEncoded(t, "over a full table", b, full, n, api.ErrFull)
	}
	for _, room := range []int{1, 2, 3} {
		l := full[:api.MaxTerms-room]
		wantLit(t, b, l, fresh, len(l)+1, append(slices.Clone(l), named("new")))
		if room < 3 { // both constants and the definition are new
			wantNotEncoded(t, "with too little room", b, l, or, api.ErrFull)
			continue
		}
		x := encoded(t, b, l, or)
		wantInt(t, "the table is full", len(x.Atoms), api.MaxTerms)
	}
	full[7] = named(stand(t, b, both)) // the definition is there
	full[11] = named("n7")
	x := encoded(t, b, full, both)
	wantInt(t, "the definition", x.Lit, 8)
}

// ErrFull is told behind all others.
func TestC2OrderOfErrors(t *testing.T) {
	b := bank(t)
	full, more := names(api.MaxTerms), names(api.MaxTerms+1)
	wantNotEncoded(t, "no term", b, more, -1, api.ErrTerm)
	wantNotEncoded(t, "a full table", b, full, -1, api.ErrTerm)
	wantNotEncoded(t, "of Real, and not normal", b, more, read(t, b, "(+ y x)"), api.ErrSort)
	wantNotEncoded(t, "of Real", b, full, 4, api.ErrSort)
	wantNotEncoded(t, "not normal", b, more, read(t, b, "(and q p)"), api.ErrPure)
	wantNotEncoded(t, "not normal", b, full, read(t, b, "(and q p)"), api.ErrPure)
	wantNotEncoded(t, "more atoms than may be", b, more, 0, api.ErrAtom)
	wantNotEncoded(t, "a table that may not be", b, append(full[:api.MaxTerms-1:api.MaxTerms-1], named("n5")), 0, api.ErrAtom)
	wantNotEncoded(t, "a full table", b, full, 0, api.ErrFull)
}

// long is an odd number of so many limbs.
func long(limbs int, seed uint32) api.Rat {
	out := make(api.Nat, limbs)
	for i := range out {
		seed = seed*1664525 + 1013904223
		out[i] = seed | 1
	}
	return api.Rat{Num: api.Int{Abs: out}, Den: api.Nat{1}}
}

// sum is the sum of some constants, the first one once, the others by odd numbers.
func sum(t *testing.T, b *terms.Bank, vars []int) int {
	t.Helper()
	kids := []int{vars[0]}
	for i, v := range vars[1:] {
		kids = append(kids, put(t, b, api.Term{Kind: api.TermScale, Number: ratio.Whole(int64(2*i + 3)), Kids: []int{v}}))
	}
	return add(t, b, api.TermAdd, kids...)
}

func declareAll(t *testing.T, b *terms.Bank, name string, sort, count int) []int {
	t.Helper()
	var out []int
	for i := range count {
		out = append(out, declare(t, b, fmt.Sprint(name, i), sort))
	}
	return out
}

// longOnes compares a form with two long coefficients with so many numbers.
func longOnes(t *testing.T, b *terms.Bank, limbs, count int) int {
	t.Helper()
	x, y := declare(t, b, "x", api.SortReal), declare(t, b, "y", api.SortReal)
	first := put(t, b, api.Term{Kind: api.TermScale, Number: long(limbs, 1), Kids: []int{x}})
	shape := add(t, b, api.TermAdd, first, put(t, b, api.Term{Kind: api.TermScale, Number: long(limbs, 7), Kids: []int{y}}))
	var all []int
	for i := range count {
		all = append(all, add(t, b, api.TermAtMost, shape, whole(t, b, i+1)))
	}
	return add(t, b, api.TermOr, all...)
}

// heavy makes terms that weigh nearly as much as is never refused, each in another way.
var heavy = map[string]func(t *testing.T, b *terms.Bank) int{
	"deep": func(t *testing.T, b *terms.Bank) int {
		last := declare(t, b, "first", api.SortBool)
		for i := range 8100 {
			kid := declare(t, b, fmt.Sprint("k", i), api.SortBool)
			last = add(t, b, api.TermAnd+i%2, min(kid, last), max(kid, last))
		}
		return last
	},
	"wide": func(t *testing.T, b *terms.Bank) int {
		return add(t, b, api.TermAnd, declareAll(t, b, "k", api.SortBool, 16000)...)
	},
	"ors of as many kids as there are of them": func(t *testing.T, b *terms.Bank) int { // kids weigh nothing
		kids := declareAll(t, b, "k", api.SortBool, 1000)
		var all []int
		for i := range kids {
			all = append(all, add(t, b, api.TermOr, slices.Delete(slices.Clone(kids), i, i+1)...))
		}
		for i := range 7000 {
			all = append(all, add(t, b, api.TermEqual, kids[i%1000], declare(t, b, fmt.Sprint("e", i), api.SortBool)))
		}
		return add(t, b, api.TermAnd, all...)
	},
	"comparisons of one": func(t *testing.T, b *terms.Bank) int {
		x := declare(t, b, "x", api.SortReal)
		var all []int
		for i := range 1800 {
			all = append(all, add(t, b, api.TermLess, x, whole(t, b, i)))
		}
		return add(t, b, api.TermOr, all...)
	},
	"comparisons of many": func(t *testing.T, b *terms.Bank) int {
		vars := declareAll(t, b, "x", api.SortReal, 100)
		var all []int
		for i := range 110 {
			all = append(all, add(t, b, api.TermAtMost, sum(t, b, vars[i%5:]), whole(t, b, i)))
		}
		return add(t, b, api.TermAnd, all...)
	},
	"comparisons of long numbers": func(t *testing.T, b *terms.Bank) int {
		return longOnes(t, b, 600, 1450)
	},
	"a long bound": func(t *testing.T, b *terms.Bank) int {
		x := declare(t, b, "x", api.SortReal)
		return add(t, b, api.TermLess, x, put(t, b, api.Term{Kind: api.TermNumber, Number: long(16300, 3)}))
	},
}

// No term that weighs at most MaxWeight is refused in a bank of at most 2^16 terms over a table of at most 2^16 atoms.
func TestC2FullNowhereElse(t *testing.T) {
	l := names(1 << 16)
	for name, make := range heavy {
		t.Run(name, func(t *testing.T) {
			b := terms.New()
			n := make(t, b)
			if weight := refOf(b).weight(n); weight > api.MaxWeight || weight < api.MaxWeight*3/4 {
				t.Fatal("its weight", weight)
			}
			for i := 1 << 40; b.Len() < 1<<16; i++ {
				whole(t, b, i)
			}
			x := encoded(t, b, l, n)
			v := bound(refOf(b), func(name string) bool { return len(name)%2 == 0 }, func(name string) *big.Rat { return big.NewRat(int64(len(name)), 7) })
			for i := range l {
				v = append(v, api.Binding{Name: fmt.Sprint("n", i), Value: api.Value{Sort: api.SortBool}})
			}
			wantDefined(t, b, n, x, v)
		})
	}
}

// A form of numbers so long that looking at it takes long is looked at once, however many atoms it has: in the term, and in the table that is handed in again.
func TestC2EncodeOfOneLongFormInManyAtoms(t *testing.T) {
	b := terms.New()
	n := longOnes(t, b, 3500, 800)
	if weight := refOf(b).weight(n); weight > api.MaxWeight {
		t.Fatal("its weight", weight)
	}
	x, e := clauses.Encode(b, atoms.New(), n)
	wantErr(t, "Encode", e, api.OK)
	wantInt(t, "the true atom, the inequalities and the definition", len(x.Atoms), 802)
	y, e := clauses.Encode(b, x.Atoms, n)
	wantErr(t, "Encode", e, api.OK)
	wantInt(t, "nothing is new", len(y.Atoms), 802)
	wantClauses(t, "again", y.Clauses, x.Clauses)
}

// What weighs far more ends soon all the same, with an answer that is right or with ErrFull.
func TestC2FarTooHeavy(t *testing.T) {
	for name, make := range map[string]func(t *testing.T, b *terms.Bank) int{
		"all terms that there may be": func(t *testing.T, b *terms.Bank) int {
			last := declare(t, b, "first", api.SortBool)
			for i := 0; b.Len() < api.MaxTerms-1; i++ {
				kid := declare(t, b, fmt.Sprint("k", i), api.SortBool)
				last = add(t, b, api.TermAnd+i%2, min(kid, last), max(kid, last))
			}
			return last
		},
		"comparisons without end of a long form": func(t *testing.T, b *terms.Bank) int {
			shape := sum(t, b, declareAll(t, b, "x", api.SortReal, 30000))
			var all []int
			for i := range 60000 {
				all = append(all, add(t, b, api.TermLess, shape, whole(t, b, i)))
			}
			return add(t, b, api.TermOr, all...)
		},
		"comparisons without end of a long number": func(t *testing.T, b *terms.Bank) int {
			x, y := declare(t, b, "x", api.SortReal), declare(t, b, "y", api.SortReal)
			shape := add(t, b, api.TermAdd, x, put(t, b, api.Term{Kind: api.TermScale, Number: long(1<<20, 5), Kids: []int{y}}))
			var all []int
			for i := range 1000 {
				all = append(all, add(t, b, api.TermLess, shape, whole(t, b, i)))
			}
			return add(t, b, api.TermOr, all...)
		},
	} {
		t.Run(name, func(t *testing.T) {
			b := terms.New()
			n := make(t, b)
			x, e := clauses.Encode(b, atoms.New(), n)
			if e == api.OK {
				wantShape(t, refOf(b), n, x)
				return
			}
			wantErr(t, "too heavy", e, api.ErrFull)
			wantText(t, "beside the error", tellEncoded(x), tellEncoded(api.Encoded{}))
		})
	}
}
