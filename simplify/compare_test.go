package simplify_test

import (
	"fmt"
	"math/big"
	"testing"

	"fulcrum/api"
)

func TestM4Comparisons(t *testing.T) {
	b := bank(t)
	for text, want := range map[string]string{
		"(< x 2)": "(< x 2.0)", "(<= x 2)": "(<= x 2.0)", "(< (* 2 x) 3)": "(< x (/ 3.0 2.0))", "(<= (/ x 3) (- 1))": "(<= x (- 3.0))", "(< x 0)": "(< x 0.0)",
		"(> x 2)": "(not (<= x 2.0))", "(>= x 2)": "(not (< x 2.0))", "(< 2 x)": "(not (<= x 2.0))", "(<= 2 x)": "(not (< x 2.0))", "(< (- x) 2)": "(not (<= x (- 2.0)))", "(<= (* (- 3) x) 2)": "(not (< x (- (/ 2.0 3.0))))",
		"(< x y)": "(< (+ x (* (- 1.0) y)) 0.0)", "(< y x)": "(not (<= (+ x (* (- 1.0) y)) 0.0))", "(<= y x)": "(not (< (+ x (* (- 1.0) y)) 0.0))", "(< (+ x 1) (- y 2))": "(< (+ x (* (- 1.0) y)) (- 3.0))",
		"(<= (+ (* 4 x) (* 6 y)) 10)": "(<= (+ (* 2.0 x) (* 3.0 y)) 5.0)", "(< (+ (/ x 2) (/ y 3)) 1)": "(< (+ (* 3.0 x) (* 2.0 y)) 6.0)", "(< (+ (* (- 4) x) (* 6 z)) 1)": "(not (<= (+ (* 2.0 x) (* (- 3.0) z)) (- (/ 1.0 2.0))))",
		"(< (+ x y) (+ x 1))": "(< y 1.0)", "(<= (- y z) (- x z))": "(not (< (+ x (* (- 1.0) y)) 0.0))", "(< (+ y x) 1)": "(< (+ x y) 1.0)",
		"(< x x)": "false", "(<= x x)": "true", "(< 1 2)": "true", "(< 2 1)": "false", "(<= 1 1)": "true", "(< 1 1)": "false", "(<= 2 1)": "false", "(< (+ x 1) x)": "false", "(<= x (+ x 1))": "true", "(< (* 0 x) 0)": "false", "(<= (- x y) (- x y))": "true", "(< (- (* 2 x) 1) (+ x x))": "true",
		"(= x x)": "true", "(= (+ x 1) x)": "false", "(= 1 1)": "true", "(= 1 2)": "false", "(= (* 2 (+ x y)) (+ y x x y))": "true",
		"(distinct x x)": "false", "(distinct x (+ x 1))": "true", "(distinct 1 2 3)": "true", "(distinct 1 2 1)": "false", "(distinct x (+ x 1) (+ x 2))": "true", "(distinct x y (+ x 0))": "false",
	} {
		wantNormal(t, b, text, want)
	}
}

// Two atoms, the one with the lesser number first.
func TestM4Equals(t *testing.T) {
	for _, c := range []struct{ first, text, want string }{
		{"true", "(= x 2)", "(and (<= x 2.0) (not (< x 2.0)))"}, {"(not (< x 2))", "(= x 2)", "(and (not (< x 2.0)) (<= x 2.0))"}, {"(<= x 2)", "(= 2 x)", "(and (<= x 2.0) (not (< x 2.0)))"},
		{"(not (< x 2))", "(= (* 3 x) 6)", "(and (not (< x 2.0)) (<= x 2.0))"}, {"(<= x 2)", "(= (* (- 3) x) (- 6))", "(and (<= x 2.0) (not (< x 2.0)))"}, {"(not (< (+ x (* 2 y)) 1))", "(= (- 2 (* 2 x)) (* 4 y))", "(and (not (< (+ x (* 2.0 y)) 1.0)) (<= (+ x (* 2.0 y)) 1.0))"},
	} {
		b := bank(t)
		read(t, b, c.first)
		wantNormal(t, b, c.text, c.want)
	}
}

// Comparisons of terms that are drawn, of which math/big finds shape and number.
func TestM4Drawn(t *testing.T) {
	counts := map[string]int{}
	for seed := range int64(300) {
		w := draw(t, seed, true)
		r := refOf(w.bank)
		for n := range w.bank.Len() {
			said := get(t, w.bank, n)
			compares := said.Kind == api.TermLess || said.Kind == api.TermAtMost || said.Kind == api.TermEqual
			if !compares || w.sort(said.Kids[0]) != api.SortReal {
				continue
			}
			f := r.form(said.Kids[0])
			f.add(r.form(said.Kids[1]), big.NewRat(-1, 1))
			got := normal(t, w.bank, n)
			wantTruth(t, fmt.Sprint("Normal of ", print(t, w.bank, n), ": ", print(t, w.bank, got)), isCompared(r, got, said.Kind, f, counts), true)
		}
	}
	for _, what := range []string{"nothing", "same", "other", "equal"} {
		if counts[what] < 100 {
			t.Errorf("so few: %v", counts)
		}
	}
}

// isCompared tells whether a term is what chapter's M4 says of a comparison of that kind, its difference being f.
func isCompared(r *ref, got, kind int, f form, counts map[string]int) bool {
	said := r.get(got)
	if len(f.coefs) == 0 {
		counts["nothing"]++
		sign := f.constant.Sign()
		is := sign == 0 && kind != api.TermLess || sign < 0 && kind != api.TermEqual
		return said.Kind == api.TermTrue && is || said.Kind == api.TermFalse && !is
	}
	often := f.prime()
	back := new(big.Rat).Inv(often)
	shape := form{coefs: map[int]*big.Rat{}, constant: new(big.Rat)}
	for v, c := range f.coefs {
		shape.coefs[v] = new(big.Rat).Mul(c, back)
	}
	at := ratOf(new(big.Rat).Neg(new(big.Rat).Mul(f.constant, back)))
	isAtom := func(n, kind int) bool {
		t := r.get(n)
		return t.Kind == kind && r.isTermOf(t.Kids[0], shape) && tellRat(r.get(t.Kids[1]).Number) == tellRat(at)
	}
	isNot := func(n, kind int) bool {
		t := r.get(n)
		return t.Kind == api.TermNot && isAtom(t.Kids[0], kind)
	}
	switch {
	case kind == api.TermEqual:
		counts["equal"]++
		k := said.Kids
		return said.Kind == api.TermAnd && len(k) == 2 && k[0] < k[1] && (isAtom(k[0], api.TermAtMost) && isNot(k[1], api.TermLess) || isNot(k[0], api.TermLess) && isAtom(k[1], api.TermAtMost))
	case often.Sign() > 0:
		counts["same"]++
		return isAtom(got, kind)
	}
	counts["other"]++
	return isNot(got, api.TermLess+api.TermAtMost-kind)
}

func TestM5OneNormalOfMultiples(t *testing.T) {
	b := bank(t)
	for _, l := range [][]string{
		{"(< (* 2 x) 3)", "(< x 1.5)", "(< (* 4 x) 6)", "(> (* (- 2) x) (- 3))", "(< (+ x x x) (+ x 3))", "(not (>= x 1.5))", "(not (<= 3 (* 2 x)))", "(> 3 (* 2 x))"},
		{"(<= x y)", "(<= (- x y) 0)", "(>= (- y x) 0)", "(>= (* 7 y) (* 7 x))", "(not (< y x))", "(<= (+ x z) (+ z y))", "(<= (/ x 3) (/ y 3))"},
		{"(= (+ x y) 1)", "(= 1 (+ y x))", "(= (* (- 2) x) (- (* 2 y) 2))", "(= 0 (- (+ x y) 1))", "(and (<= (+ x y) 1) (>= (+ y x) 1))"},
		{"(distinct x y)", "(not (= x y))", "(not (= (* 2 y) (* 2 x)))", "(or (< x y) (< y x))"},
	} {
		first := normal(t, b, read(t, b, l[0]))
		for _, text := range l[1:] {
			wantInt(t, text+" as "+l[0], normal(t, b, read(t, b, text)), first)
		}
	}
	apart := map[int]string{}
	for _, text := range []string{"(< x 1)", "(<= x 1)", "(> x 1)", "(>= x 1)", "(= x 1)", "(distinct x 1)", "(< x 2)", "(< y 1)", "(< (+ x y) 1)", "(< (- x y) 1)"} {
		n := normal(t, b, read(t, b, text))
		if other, ok := apart[n]; ok {
			t.Fatalf("%s and %s", text, other)
		}
		apart[n] = text
	}
}

// Two terms of Real have one form just if they have one value under all bindings; so they have one Normal.
func TestM5OneFormOfOneValue(t *testing.T) {
	b := bank(t)
	same := readAll(t, b, "(+ x x y 1)", "(+ y (* 2 x) 1)", "(- (* 3 x) (- x y 1))", "(* 2 (+ x (/ y 2) (/ 1 2)))", "(+ (* 0 z) x (+ y 1) x)", "(- (+ (* 2 x) y z) (- z 1))")
	others := readAll(t, b, "(+ x y 1)", "(+ x x y)", "(+ x x y 2)", "(+ x x z 1)", "(+ x x x y 1)", "1", "x", "(+ x x y 1 (* 2 z))")
	want := refOf(b).form(same[0]).told()
	for _, n := range same {
		wantAffine(t, b, n, want)
		wantInt(t, "Normal", normal(t, b, n), normal(t, b, same[0]))
		wantText(t, "Normal of their difference", print(t, b, normal(t, b, add(t, b, api.TermEqual, n, same[0]))), "true")
	}
	for _, n := range others {
		if normal(t, b, n) == normal(t, b, same[0]) {
			t.Fatal("another term has the same Normal", print(t, b, n))
		}
	}
	for seed := range int64(100) {
		w := draw(t, seed, true)
		ofOne := map[int][]int{}
		for n := range w.bank.Len() {
			if w.sort(n) == api.SortReal {
				m := normal(t, w.bank, n)
				ofOne[m] = append(ofOne[m], n)
			}
		}
		v := w.someBinds()
		for m, l := range ofOne {
			for _, n := range l {
				wantText(t, "the value", eval(t, w.bank, n, v), eval(t, w.bank, m, v))
			}
		}
	}
}
