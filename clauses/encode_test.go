package clauses_test

import (
	"fmt"
	"math"
	"math/big"
	"slices"
	"testing"

	"fulcrum/api"
	"fulcrum/atoms"
	"fulcrum/clauses"
	"fulcrum/ratio"
	"fulcrum/simplify"
	"fulcrum/terms"
)

// wrongTables may not be, each for another reason.
func wrongTables() map[string][]api.Atom {
	one, two := ratio.Whole(1), ratio.Whole(2)
	x := func(coef api.Rat) api.Form { return api.Form{{Var: 4, Coef: coef}} }
	return map[string][]api.Atom{
		"nil":                          nil,
		"empty":                        {},
		"without the true atom":        {named("p")},
		"the true atom is not first":   {named("p"), atoms.New()[0]},
		"the true atom twice":          append(atoms.New(), atoms.New()...),
		"a name twice":                 table(named("p"), named("q"), named("p")),
		"an inequality twice":          table(api.Atom{Form: x(one), Bound: two}, api.Atom{Form: x(one), Bound: two}),
		"no Prime's shape":             table(api.Atom{Form: x(two), Bound: one}),
		"a bound that is not normal":   table(api.Atom{Form: x(one), Bound: api.Rat{Num: api.Int{Abs: api.Nat{2}}, Den: api.Nat{2}}}),
		"a bound without a Den":        table(api.Atom{Name: "p"}),
		"a name with a form":           table(api.Atom{Name: "p", Form: x(one), Bound: one}),
		"a strict name":                table(api.Atom{Name: "p", Bound: ratio.Whole(0), Strict: true}),
		"more atoms than there may be": names(api.MaxTerms + 1),
	}
}

// names is a table of so many atoms, n1 and so on behind the true one.
func names(count int) []api.Atom {
	out := atoms.New()
	for i := 1; i < count; i++ {
		out = append(out, api.Atom{Name: fmt.Sprint("n", i), Bound: out[0].Bound})
	}
	return out
}

func TestC2EncodeOfWhatIsNotThere(t *testing.T) {
	b, wrong := bank(t), wrongTables()
	for _, n := range []int{-1, b.Len(), b.Len() + 1, 99, math.MaxInt, math.MinInt} {
		wantNotEncoded(t, "no such term", b, atoms.New(), n, api.ErrTerm)
		for what, l := range wrong {
			wantNotEncoded(t, "no such term, "+what, b, l, n, api.ErrTerm)
		}
	}
	for _, none := range []*terms.Bank{nil, {}, terms.New()} {
		for _, n := range []int{0, 1, -1} {
			wantNotEncoded(t, "no terms", none, atoms.New(), n, api.ErrTerm)
			wantNotEncoded(t, "no terms and no table", none, nil, n, api.ErrTerm)
		}
	}
}

func TestC2EncodeOfReal(t *testing.T) {
	b, wrong := bank(t), wrongTables()
	for _, text := range []string{"x", "1", "(+ x y)", "(* 2 x)", "(+ y x)", "(* 0 x)", "(ite p x y)", "(ite (not (not p)) x 1)"} {
		wantNotEncoded(t, text, b, atoms.New(), read(t, b, text), api.ErrSort)
		for what, l := range wrong {
			wantNotEncoded(t, text+", "+what, b, l, read(t, b, text), api.ErrSort)
		}
	}
}

func TestC2EncodeOfWhatIsNotNormal(t *testing.T) {
	b, wrong := bank(t), wrongTables()
	for _, text := range []string{
		"(not (not q))", "(not true)", "(not (and p q))", "(not (or p q))", "(xor p q)", "(=> p q)", "(distinct p q)", "(distinct p q r)", "(and q p)", "(and p p)", "(or r q)", "(and p true)", "(or false p)",
		"(and p (and q r))", "(or p (or q r))", "(and p (not p))", "(or q (not q))", "(= q p)", "(= p p)", "(= p true)", "(= p (not q))", "(ite (not p) q r)", "(ite p q q)", "(ite true p q)", "(ite p true q)", "(ite p q false)",
		"(< x y)", "(< 1 x)", "(<= (* 2 x) 1)", "(< (+ x 1) 2)", "(< 0 1)", "(= x 1)", "(distinct x 1)", "(< (+ y x) 1)", "(< (ite p x y) 1)", "(< x (ite p 1 2))", "(ite p (< x 1) (< y x))",
		"(and p (or q (not (not r))))", "(or p (and q (< x y)))", "(not (= p (xor q r)))",
	} {
		n := read(t, b, text)
		wantNotEncoded(t, text, b, atoms.New(), n, api.ErrPure)
		for what, l := range wrong {
			wantNotEncoded(t, text+", "+what, b, l, n, api.ErrPure)
		}
	}
}

func TestC2EncodeOverTablesThatMayNotBe(t *testing.T) {
	b := bank(t)
	for what, l := range wrongTables() {
		for _, text := range []string{"p", "true", "false", "(not q)", "(and p q)", "(< x 1)", "(ite p q (< x 1))"} {
			wantNotEncoded(t, text+" over "+what, b, l, normal(t, b, text), api.ErrAtom)
		}
	}
}

func TestC2EncodeOfConstants(t *testing.T) {
	b := bank(t)
	wantLit(t, b, atoms.New(), 0, 2, table(named("p")))
	wantLit(t, b, atoms.New(), 3, 2, table(named("s")))
	wantLit(t, b, table(named("q")), 0, 3, table(named("q"), named("p")))
	wantLit(t, b, table(named("q")), 1, 2, table(named("q")))
	wantLit(t, b, table(named("r"), named("p"), named("q")), 0, 3, table(named("r"), named("p"), named("q")))
	not := normal(t, b, "(not p)")
	wantLit(t, b, atoms.New(), not, -2, table(named("p")))
	wantLit(t, b, table(named("q"), named("p")), not, -3, table(named("q"), named("p")))
	odd := declare(t, b, "1*x4 <= 1", api.SortBool) // as the text of an inequality
	below := encoded(t, b, atoms.New(), normal(t, b, "(<= x 1)"))
	wantLit(t, b, below.Atoms, odd, 3, append(slices.Clone(below.Atoms), named("1*x4 <= 1")))
}

func TestC2EncodeOfTrueAndFalse(t *testing.T) {
	b := bank(t)
	yes, no := normal(t, b, "true"), normal(t, b, "false")
	for _, l := range [][]api.Atom{atoms.New(), table(named("p")), table(named("true"), named("false")), names(1000)} {
		wantLit(t, b, l, yes, 1, l)
		wantLit(t, b, l, no, -1, l)
	}
}

func TestC2EncodeOfAtoms(t *testing.T) {
	b := bank(t)
	one := ratio.Whole(1)
	x := api.Form{{Var: 4, Coef: one}}
	wantLit(t, b, atoms.New(), normal(t, b, "(<= x 1)"), 2, table(api.Atom{Form: x, Bound: one}))
	wantLit(t, b, atoms.New(), normal(t, b, "(< x 1)"), 2, table(api.Atom{Form: x, Bound: one, Strict: true}))
	wantLit(t, b, atoms.New(), normal(t, b, "(> x 1)"), -2, table(api.Atom{Form: x, Bound: one}))
	wantLit(t, b, atoms.New(), normal(t, b, "(>= x 1)"), -2, table(api.Atom{Form: x, Bound: one, Strict: true}))
	both := api.Form{{Var: 4, Coef: ratio.Whole(2)}, {Var: 6, Coef: ratio.Whole(-3)}}
	wantLit(t, b, atoms.New(), normal(t, b, "(< (+ (* 4 x) (* (- 6) z)) 3)"), 2, table(api.Atom{Form: both, Bound: ratOf(big.NewRat(3, 2)), Strict: true}))
	known := table(named("p"), api.Atom{Form: x, Bound: one, Strict: true}, api.Atom{Form: x, Bound: one})
	wantLit(t, b, known, normal(t, b, "(<= x 1)"), 4, known)
	wantLit(t, b, known, normal(t, b, "(>= x 1)"), -3, known)
	wantLit(t, b, known, normal(t, b, "(<= x 0)"), 5, append(slices.Clone(known), api.Atom{Form: x, Bound: ratio.Whole(0)}))
}

// Two ways to say one thing are one literal, and the opposite is the other one of the same atom; over a table, and in one term.
func TestC2EncodeOfTwoWaysToSayOneThing(t *testing.T) {
	b := bank(t)
	same := [][]string{
		{"(<= x 1)", "(>= 1 x)", "(<= (* 2 x) 2)", "(not (< 1 x))", "(<= (- 1) (- x))", "(<= (+ x x y) (+ 2 y))"},
		{"(< x y)", "(> y x)", "(not (<= y x))", "(< (* 3 (- x y)) 0)", "(> (+ y 1) (+ x 1))"},
		{"(<= (+ (/ x 2) (/ y 3)) 1)", "(<= (+ (* 3 x) (* 2 y)) 6)", "(>= (- 6 (* 2 y)) (* 3 x))"},
	}
	for _, texts := range same {
		first := encoded(t, b, table(named("p")), normal(t, b, texts[0]))
		for _, text := range texts {
			wantLit(t, b, first.Atoms, normal(t, b, text), first.Lit, first.Atoms)
			not := normal(t, b, "(not "+text+")")
			wantLit(t, b, first.Atoms, not, -first.Lit, first.Atoms)
		}
	}
	x := encoded(t, b, atoms.New(), normal(t, b, "(= (<= x 1) (or p (< 1 x)))"))
	wantInt(t, "the true atom, p, the one inequality and two definitions", len(x.Atoms), 5)
	wantEverywhere(t, b, normal(t, b, "(= (<= x 1) (or p (< 1 x)))"), x)
}

// wantEverywhere: the clauses define, under all values of the constants of Bool and some of those of Real.
func wantEverywhere(t *testing.T, b *terms.Bank, n int, x api.Encoded) {
	t.Helper()
	r := refOf(b)
	bools := []string{"p", "q", "r", "s"}
	numbers := []*big.Rat{big.NewRat(0, 1), big.NewRat(1, 1), big.NewRat(3, 2)}
	for m := range 1 << len(bools) {
		is := func(name string) bool { return m>>max(0, slices.Index(bools, name))&1 == 1 }
		for i := range 2 * len(numbers) {
			wantDefined(t, b, n, x, bound(r, is, func(name string) *big.Rat { return numbers[(i+i/len(numbers)*int(name[0]))%len(numbers)] }))
		}
	}
}

// Each kind that has clauses, with kids of all kinds.
func TestC2EncodeOfEachKind(t *testing.T) {
	for _, text := range []string{
		"(and p q)", "(or p q)", "(and p q r s)", "(or p (not q) r)", "(and (not p) (not q))", "(or (< x 1) (not (<= x 1)) p)", "(and (or p q) (or r s))", "(or (and p q) (and r s))", "(and p (or q (and r (or p s))))",
		"(= p q)", "(not (= p q))", "(= p (and q r))", "(= (or p q) (and r s))", "(= (< x 1) p)", "(= (= p q) (= r s))", "(= p (= q (= r s)))", "(xor p q r s)",
		"(ite p q r)", "(not (ite p q r))", "(ite p (not q) r)", "(ite p q (not r))", "(ite (and p q) (or r s) p)", "(ite (< x 1) (< y x) (<= x 0))", "(ite (ite p q r) (ite q r s) (ite r s p))", "(ite (= p q) (not (= r s)) (and p s))",
		"(=> p q r s)", "(distinct p q)", "(distinct x y 1)", "(= x y)", "(not (= x 1))", "(and (= x y) (= y z) (distinct x z))", "(or (not (= x y)) (= (not p) (not (and q r))))",
	} {
		b := bank(t)
		n := normal(t, b, text)
		x := encoded(t, b, atoms.New(), n)
		wantEverywhere(t, b, n, x)
		wantEverywhere(t, b, n, encoded(t, b, table(named("r"), named(stand(t, b, n)), named("p")), n))
		wantEverywhere(t, b, n, encoded(t, b, x.Atoms, n))
	}
}

// A TermIte in normal form may have its condition as a branch, or the opposite of it, or branches that are opposites.
func TestC2EncodeOfItesWithKidsThatAreAlike(t *testing.T) {
	b := bank(t)
	and := add(t, b, api.TermAnd, 1, 2)
	kids := []int{0, 1, and, normal(t, b, "(< x 1)"), normal(t, b, "(= q r)")}
	for _, n := range slices.Clone(kids) {
		if said := get(t, b, n); said.Kind != api.TermAnd {
			kids = append(kids, add(t, b, api.TermNot, n))
		}
	}
	count := 0
	for _, is := range kids {
		for _, then := range kids {
			for _, other := range kids {
				n := add(t, b, api.TermIte, is, then, other)
				if ok, _ := simplify.Is(b, n); ok {
					wantEverywhere(t, b, n, encoded(t, b, atoms.New(), n))
					count++
				}
			}
		}
	}
	wantInt(t, "the ites in normal form", count, 5*9*8)
}

func TestC2EncodeOfAny(t *testing.T) {
	for seed := range int64(150) {
		w := draw(t, seed, 8+int(seed)%25)
		for range 6 {
			n := w.pool[w.Intn(len(w.pool))]
			l := w.someTable()
			x := encoded(t, w.bank, l, n)
			for range 12 {
				wantDefined(t, w.bank, n, x, w.someBinds())
			}
		}
	}
}

// Layer 16 makes what layer 18 takes: terms of all kinds, made normal.
func TestC2EncodeOfNormal(t *testing.T) {
	b := bank(t)
	for i, text := range []string{
		"(let ((a (xor p q)) (b (=> q r))) (ite (= a b) (distinct a b) (or a (not b) (< x y))))", "(and (distinct x y z) (or (= x 1) (= y 2)) (=> (< x y) p))",
		"(xor (< (+ x y) z) (<= (- x y) (* 3 z)) (= x (+ y z)) p)", "(or (and p (not p)) (= q q))", "(not (or (and p q) (and r (not (and s (< x 1))))))",
	} {
		n := normal(t, b, text)
		x := encoded(t, b, names(2+i), n)
		wantInt(t, "the term in normal form, again", normal(t, b, text), n)
		for m := range 40 {
			v := bound(refOf(b), func(name string) bool { return m>>(name[0]-'p')&1 == 1 }, func(name string) *big.Rat { return big.NewRat(int64(m*int(name[0])%5), 2) })
			for i := range 10 {
				v = append(v, api.Binding{Name: fmt.Sprint("n", i), Value: api.Value{Sort: api.SortBool}})
			}
			wantDefined(t, b, n, x, v)
		}
	}
}

// Terms that share kids are gone over once: as a tree this one has some 2^200 terms.
func TestC2EncodeOfSharedKids(t *testing.T) {
	b := bank(t)
	last := 0
	for i := range 200 {
		kid := declare(t, b, fmt.Sprint("q", i), api.SortBool)
		last = add(t, b, api.TermEqual, min(kid, last), max(kid, last))
		left, right := add(t, b, api.TermAnd, kid, last), add(t, b, api.TermOr, kid, last)
		last = add(t, b, api.TermIte, last, left, right)
	}
	x := encoded(t, b, atoms.New(), last)
	if len(x.Clauses) > 200*14 {
		t.Fatal("so many clauses:", len(x.Clauses))
	}
	for m := range 5 {
		wantDefined(t, b, last, x, bound(refOf(b), func(name string) bool { return len(name)*(m+1)%3 == 0 }, func(string) *big.Rat { return new(big.Rat) }))
	}
}

// deep is a term that stands so deep in others of all kinds.
func deep(t *testing.T, b *terms.Bank, depth int) int {
	t.Helper()
	last := declare(t, b, "first", api.SortBool)
	for i := range depth {
		kid := declare(t, b, fmt.Sprint("k", i), api.SortBool)
		if i%7 == 3 {
			kid = add(t, b, api.TermLess, 4, whole(t, b, i))
		}
		low, high := min(kid, last), max(kid, last)
		switch i % 5 {
		case 0:
			last = add(t, b, api.TermAnd, low, high)
		case 1:
			last = add(t, b, api.TermOr, low, high)
		case 2:
			last = add(t, b, api.TermEqual, low, high)
		case 3:
			last = add(t, b, api.TermIte, kid, last, add(t, b, api.TermNot, kid))
		case 4:
			last = add(t, b, api.TermNot, last)
		}
	}
	return last
}

func TestC2EncodeOfDeepTerms(t *testing.T) {
	b := bank(t)
	n := deep(t, b, 40000)
	x := encoded(t, b, names(100), n)
	v := bound(refOf(b), func(name string) bool { return len(name)%2 == 0 }, func(string) *big.Rat { return big.NewRat(20000, 1) })
	for i := range 100 {
		v = append(v, api.Binding{Name: fmt.Sprint("n", i), Value: api.Value{Sort: api.SortBool}})
	}
	wantDefined(t, b, n, x, v)
	not := put(t, b, api.Term{Kind: api.TermNot, Kids: []int{0}})
	for range 30000 {
		not = put(t, b, api.Term{Kind: api.TermNot, Kids: []int{not}})
	}
	wantNotEncoded(t, "opposites of opposites", b, atoms.New(), not, api.ErrPure)
}

func TestC2EncodeOfWideTerms(t *testing.T) {
	b := bank(t)
	var kids []int
	for i := range 30000 {
		kids = append(kids, declare(t, b, fmt.Sprint("w", i), api.SortBool))
	}
	for _, kind := range []int{api.TermAnd, api.TermOr} {
		n := add(t, b, kind, kids...)
		x := encoded(t, b, atoms.New(), n)
		wantInt(t, "its clauses", len(x.Clauses), len(kids)+1)
		for _, odd := range []string{"", "w7", "w29999"} {
			wantDefined(t, b, n, x, bound(refOf(b), func(name string) bool { return (name == odd) != (kind == api.TermAnd) }, func(string) *big.Rat { return new(big.Rat) }))
		}
	}
}

// Constants of one name may have two sorts: the one is an atom, the other one a variable.
func TestC2EncodeOfOneNameOfTwoSorts(t *testing.T) {
	b := terms.New()
	number := declare(t, b, "x", api.SortReal)
	wantErr(t, "Forget", b.Forget(0), api.OK)
	truth := declare(t, b, "x", api.SortBool)
	n := add(t, b, api.TermOr, truth, add(t, b, api.TermLess, number, whole(t, b, 1)))
	x := encoded(t, b, atoms.New(), n)
	wantInt(t, "the atoms", len(x.Atoms), 4)
	wantText(t, "the constant", tellAtom(x.Atoms[1]), tellAtom(named("x")))
}

// Where constants that stand for terms stand in a term with these, what is defined is not promised; all else is.
func TestC2EncodeOfConstantsThatStandForTerms(t *testing.T) {
	b := bank(t)
	and, or := add(t, b, api.TermAnd, 0, 1), add(t, b, api.TermOr, 2, 3)
	var kids []int
	for _, n := range []int{0, and, or} {
		s, e := b.Stand(n)
		wantErr(t, "Stand", e, api.OK)
		kids = append(kids, s, add(t, b, api.TermNot, s))
	}
	kids = append(kids, and, or, 0)
	count := 0
	for _, i := range kids {
		for _, j := range kids {
			for _, n := range []int{add(t, b, api.TermAnd, i, j), add(t, b, api.TermOr, i, j), add(t, b, api.TermEqual, i, j), add(t, b, api.TermIte, i, j, and), add(t, b, api.TermIte, or, i, j), add(t, b, api.TermOr, and, i, j)} {
				if ok, _ := simplify.Is(b, n); ok {
					encoded(t, b, atoms.New(), n)
					count++
				}
			}
		}
	}
	if count < 80 {
		t.Fatal("so few in normal form", count)
	}
	s, e := b.Stand(and) // without the term for which it stands it is a constant like others
	wantErr(t, "Stand", e, api.OK)
	wantLit(t, b, atoms.New(), s, 2, table(named(stand(t, b, and))))
}

// The table that is told begins with the one that was handed in, whatever it had; what is in it is not put in again.
func TestC2EncodeOverLongTables(t *testing.T) {
	b := bank(t)
	var n []int
	for _, text := range []string{"(and p (< x 1) (or q r))", "(or q (not (< x 1)) (<= y 2))", "(ite p (= x y) (= q r))", "(not (= p (and p q)))"} {
		n = append(n, normal(t, b, text))
	}
	l := names(500)
	for _, n := range n {
		l = encoded(t, b, l, n).Atoms
	}
	for _, n := range n {
		x := encoded(t, b, l, n)
		wantInt(t, "nothing is new", len(x.Atoms), len(l))
	}
}

// Another bank with the same terms tells the same, and so does the same bank again; what else a bank has, ahead or behind, does not count, but for the terms' numbers.
func TestC2AnotherBankTellsTheSame(t *testing.T) {
	for seed := range int64(60) {
		w := draw(t, seed, 25)
		other := alike(t, w.bank)
		for _, n := range w.pool {
			l := w.someTable()
			x, e := clauses.Encode(w.bank, l, n)
			wantErr(t, "Encode", e, api.OK)
			y, e := clauses.Encode(other, l, n)
			wantErr(t, "Encode", e, api.OK)
			wantText(t, "another bank", tellEncoded(y), tellEncoded(x))
			add(t, w.bank, api.TermNot, n)
			w.bank.Stand(n)
			y, e = clauses.Encode(w.bank, l, n)
			wantErr(t, "Encode", e, api.OK)
			wantText(t, "again", tellEncoded(y), tellEncoded(x))
		}
	}
}
