package simplify_test

import (
	"fmt"
	"math"
	"testing"

	"fulcrum/api"
	"fulcrum/simplify"
	"fulcrum/terms"
)

// wantSame: Normal says under all truths of p, q and r and some values of x, y and z what the term says, and Negate the opposite.
func wantSame(t *testing.T, b *terms.Bank, text string) {
	t.Helper()
	n := read(t, b, text)
	plain, opposite := normal(t, b, n), negate(t, b, n)
	back := negate(t, b, opposite)
	wantInt(t, "Normal of Normal of "+text, normal(t, b, plain), plain)
	wantInt(t, "Normal of Negate of "+text, normal(t, b, opposite), opposite)
	for i := range 8 {
		for _, amounts := range [][]string{{"x=0", "y=0", "z=0"}, {"x=1", "y=1", "z=2"}, {"x=2", "y=-1", "z=2"}, {"x=1/2", "y=2", "z=-1"}, {"x=-1", "y=1", "z=1/2"}} {
			v := append(binds(amounts...), binds(fmt.Sprint("p=", i&1 > 0), fmt.Sprint("q=", i&2 > 0), fmt.Sprint("r=", i&4 > 0))...)
			want := eval(t, b, n, v)
			wantText(t, text+" made normal", eval(t, b, plain, v), want)
			wantText(t, text+" negated", eval(t, b, opposite, v), fmt.Sprint(want == "false"))
			wantText(t, text+" negated twice", eval(t, b, back, v), want)
		}
	}
}

func TestM3NormalOfAllKinds(t *testing.T) {
	b := bank(t)
	for _, text := range []string{
		"true", "false", "p", "(not p)", "(not (not p))", "(not (not (not p)))", "(not true)", "(not (not false))",
		"(and p q)", "(and q p)", "(and p p)", "(and p q p)", "(and p true)", "(and p false)", "(and true true)", "(and p (not p))", "(and p q (not p))", "(and p (and q r))", "(and (and p q) (and q r))", "(and p (or q r))", "(and p (not (or q r)))", "(and (not (and p q)) (or p r))",
		"(or p q)", "(or r p)", "(or q q)", "(or p false)", "(or p true)", "(or false false)", "(or p (not p))", "(or (not q) r q)", "(or p (or q r))", "(or (or p q) (or r p) (not (and p q)))", "(or p (and q r))", "(not (or (and p q) (and (not r) p)))",
		"(and (or p p) q)", "(or (and p p) (and p p))", "(and (or (and p q) (and p q)) r)", "(or (and (or p q) (or p q)) r)", "(and (or (and p q) false) (and r q))", "(not (and (or (and p q) (and p q)) r))",
		"(xor p q)", "(xor q p)", "(xor p p)", "(xor p (not p))", "(xor p true)", "(xor false q)", "(xor (not p) q)", "(xor (not p) (not q))", "(xor p q r)", "(xor (and p q) (or p q))", "(xor (and p q) (and q p))", "(xor (and p q) (not (and p q)))",
		"(=> p q)", "(=> p p)", "(=> p q r)", "(=> p false)", "(=> false p)", "(=> true p)", "(=> p true)", "(=> (not p) q)", "(=> (and p q) (or p q))", "(=> (or p q) r)", "(not (=> p q))",
		"(= p q)", "(= q p)", "(= p p)", "(= p (not p))", "(= p true)", "(= false p)", "(= true false)", "(= (not p) (not q))", "(= p q r)", "(= (and p q) r)", "(= (or p q) (or q p))", "(= (= p q) (= q r))", "(not (= p (not q)))", "(= (not (and p q)) (or (not p) (not q)))",
		"(distinct p q)", "(distinct p p)", "(distinct p q r)", "(distinct p (not p))", "(distinct p p q q)", "(distinct (and p q) r)", "(distinct p true)",
		"(ite p q r)", "(ite (not p) q r)", "(ite p q q)", "(ite p p q)", "(ite p q p)", "(ite p true q)", "(ite p false q)", "(ite p q true)", "(ite p q false)", "(ite p true false)", "(ite p false true)", "(ite p true true)", "(ite true p q)", "(ite false p q)", "(ite p q (not q))", "(ite p (not q) (not q))", "(ite p (not q) (not r))", "(not (ite p q r))",
		"(ite (and p q) r (or p q))", "(ite (or p q) true r)", "(ite (and p q) false r)", "(ite (or p q) r false)", "(ite (and p q) r true)", "(ite (= p q) (ite q r p) (ite r p q))", "(ite (xor p q) r (not r))", "(ite (and p p) (or q q) (and q true))", "(ite (and p q) (and q p) r)", "(and (ite p true q) (ite p q false) r)",
		"(< x y)", "(<= x y)", "(> (+ x y) 1)", "(>= x (* 2 z))", "(< 1 2)", "(= x y)", "(= (+ x 1) (+ 1 x))", "(distinct x y)", "(distinct x y z)", "(distinct x y z 2)", "(distinct x x)", "(distinct 1 2 3)", "(= x y z)", "(< x y z)", "(and (< x y) (>= x y))", "(or (< x 1) (> x 1) (= x 1))", "(and (<= x 1) (not (<= x 1)))",
		"(and p (or p (< x y)) (=> p (= x y)))", "(ite p (< x 1) (distinct x y 2))", "(xor p (= p (< x y)))", "(ite (< x y) (= x 2) (= y 2))", "(=> (and (< x y) (< y z)) (< x z))", "(not (and (or p (= x y)) (xor q (distinct x z)) (=> r (<= x z))))", "(= (= x y) (distinct x z))", "(ite (= x y) (distinct x z) (= p (< x 1)))",
	} {
		wantSame(t, b, text)
	}
}

// What the program sees of truths that are no matter of values: it leaves out what it can.
func TestM3NormalLeavesOut(t *testing.T) {
	for text, want := range map[string]string{
		"(and p p)": "p", "(or q q q)": "q", "(and p true)": "p", "(or p false)": "p", "(and true true)": "true", "(or false false)": "false", "(and p q false)": "false", "(or p q true)": "true", "(and p (not p))": "false", "(or q (not q) p)": "true", "(and (< x 1) (>= x 1))": "false", "(or (<= x 1) (> x 1))": "true",
		"(and q (and p r))": "(and p q r)", "(or (or r q) p)": "(or p q r)", "(and r (or q p))": "(and r (or p q))", "(not (and p q))": "(or (not p) (not q))", "(not (or p q))": "(and (not p) (not q))", "(and (or (and p q) (and q p)) r)": "(and p q r)", "(and (not (or p q)) (not p))": "(and (not p) (not q))",
		"(xor p q)": "(not (= p q))", "(xor (not p) q)": "(= p q)", "(= q p)": "(= p q)", "(= (not p) q)": "(not (= p q))", "(= p p)": "true", "(xor p p)": "false", "(= p (not p))": "false", "(= p true)": "p", "(= p false)": "(not p)", "(distinct p q)": "(not (= p q))", "(distinct p q r)": "false", "(distinct p p)": "false",
		"(=> p q)": "(or q (not p))", "(=> p p)": "true", "(=> p false)": "(not p)", "(=> true p)": "p",
		"(ite (not p) q r)": "(ite p r q)", "(ite p q q)": "q", "(ite true p q)": "p", "(ite false p q)": "q", "(ite p true q)": "(or p q)", "(ite p false q)": "(and q (not p))", "(ite p q true)": "(or q (not p))", "(ite p q false)": "(and p q)", "(ite p true false)": "p", "(ite p false true)": "(not p)", "(not (ite p q r))": "(not (ite p q r))", "(not (not (ite p q r)))": "(ite p q r)",
		"(+ x x)": "(* 2.0 x)", "(- x x)": "0.0", "(+ 1 x 2)": "(+ x 3.0)", "(* 1 x)": "x", "(* 2 (+ y x))": "(+ (* 2.0 x) (* 2.0 y))",
	} {
		wantNormal(t, bank(t), text, want) // in a bank of its own: the order of kids hangs on which terms are there
	}
	for text, want := range map[string]string{
		"true": "false", "false": "true", "p": "(not p)", "(not p)": "p", "(and p q)": "(or (not p) (not q))", "(or p (not q))": "(and q (not p))", "(xor p q)": "(= p q)", "(= p q)": "(not (= p q))", "(ite p q r)": "(not (ite p q r))", "(=> p q)": "(and p (not q))", "(< x 1)": "(not (< x 1.0))", "(> x 1)": "(<= x 1.0)", "(< x x)": "true",
	} {
		wantNegate(t, bank(t), text, want)
	}
}

// No terms are put in for junctions that are parts of others of their kind, nor for those of which only the opposite is asked.
func TestM3NormalPutsInLittle(t *testing.T) {
	for text, more := range map[string]int{"(and (and (and p q) r) q)": 1, "(or p (or q (or r p)))": 1, "(not (or (not p) (not q)))": 1, "(and p (or q (or r p)))": 2, "(and p (not (or (not q) (not r))))": 1, "(or true (and q p) (xor q r))": 1, "(and p (not p) (or r q))": 1} {
		b := bank(t)
		n := read(t, b, text)
		was := b.Len()
		normal(t, b, n)
		if b.Len()-was > more {
			t.Errorf("%s: %d terms more", text, b.Len()-was)
		}
	}
}

func wantNotNormal(t *testing.T, b *terms.Bank, n int, want api.Errno) {
	t.Helper()
	m, e := simplify.Normal(b, n)
	wantErr(t, fmt.Sprint("Normal of ", n), e, want)
	wantInt(t, "beside the error", m, 0)
}

func wantNotNegated(t *testing.T, b *terms.Bank, n int, want api.Errno) {
	t.Helper()
	m, e := simplify.Negate(b, n)
	wantErr(t, fmt.Sprint("Negate of ", n), e, want)
	wantInt(t, "beside the error", m, 0)
}

func TestM3NormalErrors(t *testing.T) {
	b := bank(t)
	for _, n := range readAll(t, b, "(< (ite p x y) 1)", "(and p (not (or q (= x (+ 1 (* 0 (ite r x y)))))))", "(ite p q (< 1 (ite q x y)))", "(or true (< (ite p 1 1) 2))", "(distinct p q (< (ite p x y) 1))") {
		was := dump(b)
		wantNotNormal(t, b, n, api.ErrPure)
		wantNotNegated(t, b, n, api.ErrPure)
		wantText(t, "the bank", dump(b), was)
	}
	for _, n := range readAll(t, b, "(ite p x y)", "(* 2 (+ x (ite p x y)))") {
		wantNotNormal(t, b, n, api.ErrPure)
		wantNotNegated(t, b, n, api.ErrSort) // ahead of ErrPure
	}
	for _, n := range readAll(t, b, "x", "7", "(+ x y)") {
		wantNotNegated(t, b, n, api.ErrSort)
	}
	for _, n := range []int{-1, b.Len(), math.MaxInt, math.MinInt} {
		wantNotNormal(t, b, n, api.ErrTerm)
		wantNotNegated(t, b, n, api.ErrTerm)
	}
	for _, none := range append(unmade(), terms.New()) {
		wantNotNormal(t, none, 0, api.ErrTerm)
		wantNotNegated(t, none, 0, api.ErrTerm)
	}
}

// Constants that are forgotten, given again with the other sort, or stand for terms are constants like others.
func TestM3NormalOfAnyConstants(t *testing.T) {
	b := bank(t)
	n := read(t, b, "(and (xor p q) (< x y))")
	s, _ := b.Stand(n)
	real, _ := b.Stand(read(t, b, "(+ x 1)"))
	both := add(t, b, api.TermOr, s, n, add(t, b, api.TermLess, real, 0))
	wantErr(t, "Forget", b.Forget(0), api.OK)
	declare(t, b, "x", api.SortBool)
	declare(t, b, "p", api.SortReal)
	for _, m := range []int{n, both, add(t, b, api.TermNot, both)} {
		plain := normal(t, b, m)
		wantInt(t, "again", normal(t, b, plain), plain)
		negate(t, b, m)
	}
}

// Terms that are drawn, under bindings that are drawn.
func TestM3Drawn(t *testing.T) {
	kinds, kept := map[int]int{}, 0
	for seed := range int64(240) {
		w := draw(t, seed, seed%5 > 0)
		r := refOf(w.bank)
		var v [][]api.Binding
		for range 8 {
			v = append(v, w.someBinds())
		}
		for n := range w.bank.Len() {
			if len(r.ites(n)) > 0 {
				wantNotNormal(t, w.bank, n, api.ErrPure)
				continue
			}
			plain := normal(t, w.bank, n)
			wantInt(t, "M6: Normal again", normal(t, w.bank, plain), plain)
			if r.isNormal(n) {
				wantInt(t, "Normal of a term in normal form", plain, n)
				kept++
			}
			kinds[get(t, w.bank, n).Kind]++
			for _, one := range v {
				wantText(t, fmt.Sprint(n, " made normal"), eval(t, w.bank, plain, one), eval(t, w.bank, n, one))
			}
			if w.sort(n) == api.SortReal {
				wantNotNegated(t, w.bank, n, api.ErrSort)
				continue
			}
			opposite := negate(t, w.bank, n)
			back := negate(t, w.bank, opposite)
			for _, one := range v {
				wantText(t, fmt.Sprint(n, " negated"), eval(t, w.bank, opposite, one), fmt.Sprint(eval(t, w.bank, n, one) == "false"))
				wantText(t, fmt.Sprint("M6: ", n, " negated twice"), eval(t, w.bank, back, one), eval(t, w.bank, n, one))
			}
		}
	}
	for kind := api.TermTrue; kind <= api.TermScale; kind++ {
		if kinds[kind] < 100 {
			t.Errorf("so few of the kind %d: %v", kind, kinds)
		}
	}
	if kept < 1000 {
		t.Error("so few in normal form", kept)
	}
}
