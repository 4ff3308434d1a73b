package simplify_test

import (
	"fmt"
	"math"
	"math/big"
	"testing"

	"fulcrum/api"
	"fulcrum/simplify"
	"fulcrum/terms"
)

func TestM1Affine(t *testing.T) {
	b := bank(t)
	for text, want := range map[string]api.Affine{
		"x": affine("0", 0, "1"), "z": affine("0", 2, "1"), "7": affine("7"), "0.0": affine("0"), "(- (/ 1 3))": affine("-1/3"),
		"(+ x y)": affine("0", 0, "1", 1, "1"), "(+ y x)": affine("0", 0, "1", 1, "1"), "(+ z 1 y 2)": affine("3", 1, "1", 2, "1"), "(+ x x x)": affine("0", 0, "3"),
		"(* 2 x)": affine("0", 0, "2"), "(- y)": affine("0", 1, "-1"), "(/ x 3)": affine("0", 0, "1/3"), "(* 2 (+ x 3))": affine("6", 0, "2"), "(* 2 (* 3 (* (/ 1 6) x)))": affine("0", 0, "1"),
		"(* 0 x)": affine("0"), "(* 0 (+ x 5))": affine("0"), "(+ (* 0 x) y)": affine("0", 1, "1"), "(* 5 (* 0 (+ y 1)))": affine("0"),
		"(- x x)": affine("0"), "(+ x y (- x))": affine("0", 1, "1"), "(- (+ x 2) (+ x 1))": affine("1"), "(+ (* 2 (+ x y)) (* (- 2) (+ y x)) z)": affine("0", 2, "1"),
		"(+ x (+ y (+ z (+ x 1))))": affine("1", 0, "2", 1, "1", 2, "1"), "(+ (+ (+ x 1) (+ y 2)) (* 3 (+ (+ x y) (+ 4 z))))": affine("15", 0, "4", 1, "4", 2, "3"),
		"(* 18446744073709551616 (+ (/ x 18446744073709551615) 1))": affine("18446744073709551616", 0, "18446744073709551616/18446744073709551615"),
	} {
		wantAffine(t, b, read(t, b, text), want)
	}
}

// A constant that stands for a term, one that is forgotten, and one of the same name that is another one are variables like others.
func TestM1AffineOfAnyConstants(t *testing.T) {
	b := bank(t)
	sum := read(t, b, "(+ x 1)")
	s, _ := b.Stand(sum)
	both := add(t, b, api.TermAdd, s, sum, s)
	wantAffine(t, b, both, affine("1", 0, "1", s, "2"))
	wantErr(t, "Forget", b.Forget(0), api.OK)
	declare(t, b, "x", api.SortBool)
	wantAffine(t, b, both, affine("1", 0, "1", s, "2"))
	wantReal(t, b, affine("1", s, "2", 0, "-1"), "(+ (* (- 1.0) x) (* 2.0 (+ x 1.0)) 1.0)")
}

func TestM1AffineErrors(t *testing.T) {
	b := bank(t)
	for _, text := range []string{"p", "true", "false", "(< x y)", "(and p q)", "(ite p q r)", "(< (ite p x y) 1)"} { // of Bool, pure or not
		wantNoAffine(t, b, read(t, b, text), api.ErrSort)
	}
	for _, text := range []string{"(ite p x y)", "(ite p 1 1)", "(+ x (ite p x y))", "(* 0 (ite p x y))", "(* 2 (+ x (* 3 (+ y (ite (< x y) 1 2)))))", "(+ (ite p x y) (- (ite p x y)))"} {
		wantNoAffine(t, b, read(t, b, text), api.ErrPure)
	}
	for _, n := range []int{-1, b.Len(), math.MaxInt, math.MinInt} {
		wantNoAffine(t, b, n, api.ErrTerm)
	}
	for _, none := range append(unmade(), terms.New()) {
		wantNoAffine(t, none, 0, api.ErrTerm)
		wantNoAffine(t, none, -1, api.ErrTerm)
	}
}

// Terms that are drawn, held against sums of forms by math/big.
func TestM1AffineDrawn(t *testing.T) {
	counts := map[api.Errno]int{}
	for seed := range int64(300) {
		w := draw(t, seed, seed%2 == 0)
		r := refOf(w.bank)
		for n := range w.bank.Len() {
			switch {
			case w.sort(n) == api.SortBool:
				wantNoAffine(t, w.bank, n, api.ErrSort)
				counts[api.ErrSort]++
			case len(r.ites(n)) > 0:
				wantNoAffine(t, w.bank, n, api.ErrPure)
				counts[api.ErrPure]++
			default:
				wantAffine(t, w.bank, n, r.form(n).told())
				counts[api.OK]++
			}
		}
	}
	if counts[api.OK] < 1000 || counts[api.ErrPure] < 300 {
		t.Fatal("so few terms", counts)
	}
}

func TestM1Real(t *testing.T) {
	b := bank(t)
	for _, c := range []struct {
		f    api.Affine
		want string
	}{
		{affine("0"), "0.0"}, {affine("5"), "5.0"}, {affine("-1/2"), "(- (/ 1.0 2.0))"}, {affine("0", 0, "1"), "x"}, {affine("0", 1, "-1"), "(* (- 1.0) y)"}, {affine("0", 2, "2/3"), "(* (/ 2.0 3.0) z)"},
		{affine("1", 0, "1"), "(+ x 1.0)"}, {affine("0", 0, "1", 1, "1"), "(+ x y)"}, {affine("-3", 0, "2", 1, "1", 2, "-1"), "(+ (* 2.0 x) y (* (- 1.0) z) (- 3.0))"},
		// not normal: in another order, a variable several times, coefficients that are 0 or cancel one another
		{affine("0", 1, "1", 0, "1"), "(+ x y)"}, {affine("2", 2, "3", 0, "1", 2, "-2"), "(+ x z 2.0)"}, {affine("0", 0, "1/2", 0, "1/2"), "x"}, {affine("5", 0, "0"), "5.0"}, {affine("0", 0, "0", 1, "2"), "(* 2.0 y)"}, {affine("0", 0, "1", 0, "-1"), "0.0"},
		{api.Affine{Form: api.Form{{Var: 0, Coef: api.Rat{Num: api.Int{Abs: api.Nat{2, 0}}, Den: api.Nat{2}}}}, Const: api.Rat{Num: api.Int{Neg: true, Abs: api.Nat{0}}, Den: api.Nat{7}}}, "x"},
		{api.Affine{Form: api.Form{{Var: 1, Coef: api.Rat{Num: api.Int{Abs: api.Nat{7}}}}}, Const: api.Rat{Num: api.Int{Abs: api.Nat{7}}}}, "0.0"},
	} {
		n := wantReal(t, b, c.f, c.want)
		was := b.Len()
		wantInt(t, "at the second asking", wantReal(t, b, c.f, c.want), n)
		wantInt(t, "the bank's terms then", b.Len(), was)
		wantIs(t, b, n, true)
	}
	wantInt(t, "a constant's term", wantReal(t, b, affine("0", 2, "1"), "z"), 2)
	if n, e := simplify.Real(terms.New(), affine("3")); n != 0 || e != api.OK {
		t.Fatal("a number in a bank without terms", n, e)
	}
}

// No terms are put in but those of which the form's term is made, and each once.
func TestM1RealPutsInWhatIsMissing(t *testing.T) {
	b := bank(t)
	was := b.Len()
	n := wantReal(t, b, affine("3", 0, "2", 1, "1", 2, "-1"), "(+ (* 2.0 x) y (* (- 1.0) z) 3.0)")
	wantInt(t, "the terms of a sum", b.Len()-was, 4)
	wantInt(t, "the sum", n, b.Len()-1)
	wantReal(t, b, affine("3", 2, "-1"), "(+ (* (- 1.0) z) 3.0)")
	wantInt(t, "one more", b.Len()-was, 5)
	wantReal(t, b, affine("0", 0, "2"), "(* 2.0 x)")
	wantReal(t, b, affine("3"), "3.0")
	wantInt(t, "no more", b.Len()-was, 5)
}

func TestM1RealErrors(t *testing.T) {
	b := bank(t)
	sum := read(t, b, "(+ x 1)")
	truth, _ := b.Stand(3)
	for _, v := range []int{3, 4, sum, truth, read(t, b, "2"), read(t, b, "(< x 1)"), read(t, b, "(ite p x y)"), -1, b.Len(), math.MaxInt, math.MinInt} {
		was := dump(b)
		for _, f := range []api.Affine{affine("0", v, "1"), affine("1", 0, "1", v, "-1/2"), affine("0", v, "2", 0, "2", v, "-1")} {
			wantNoReal(t, b, f, api.ErrVar)
			for _, none := range unmade() {
				wantNoReal(t, none, f, api.ErrTerm) // ahead of ErrVar
			}
		}
		wantText(t, "the bank", dump(b), was)
		wantReal(t, b, affine("0", v, "0", 0, "1"), "x") // a variable that does not stand there need not be
		wantReal(t, b, affine("1", v, "2", v, "-2"), "1.0")
	}
	for _, none := range unmade() {
		wantNoReal(t, none, affine("5"), api.ErrTerm)
		wantNoReal(t, none, api.Affine{}, api.ErrTerm)
	}
	wantNoReal(t, terms.New(), affine("0", 0, "1"), api.ErrVar)
}

func TestM1RealDrawn(t *testing.T) {
	done := 0
	for seed := range int64(200) {
		w := draw(t, seed, true)
		r := refOf(w.bank)
		for range 30 {
			f := w.someForm()
			sum := form{coefs: map[int]*big.Rat{}, constant: bigRat(f.Const)}
			for _, part := range f.Form {
				sum.add(form{coefs: map[int]*big.Rat{part.Var: big.NewRat(1, 1)}, constant: new(big.Rat)}, bigRat(part.Coef))
			}
			want := api.OK
			for v := range sum.coefs {
				if said, e := w.bank.Get(v); e != api.OK || said.Kind != api.TermName || said.Sort != api.SortReal {
					want = api.ErrVar
				}
			}
			n, e := simplify.Real(w.bank, f)
			wantErr(t, "Real of "+tellAffine(f), e, want)
			if want != api.OK {
				wantInt(t, "beside the error", n, 0)
				continue
			}
			wantTruth(t, fmt.Sprint(n, " is the term of ", tellAffine(f)), r.isTermOf(n, sum), true)
			wantAffine(t, w.bank, n, sum.told())
			done++
		}
	}
	if done < 1000 {
		t.Fatal("so few forms", done)
	}
}

func TestM1Pure(t *testing.T) {
	b := bank(t)
	for text, want := range map[string]bool{
		"x": true, "7": true, "p": true, "true": true, "(+ x (* 2 y))": true, "(ite p q r)": true, "(< x 1)": true, "(and p (ite (< x y) q (= x y)))": true,
		"(ite p x y)": false, "(ite p 1 1)": false, "(+ 1 (* 0 (ite p x y)))": false, "(< (ite p x y) 1)": false, "(not (or p (xor q (distinct 1 x (ite r 1 2)))))": false,
		"(ite (< (ite p x y) 1) q r)": false, "(ite p (= (ite q x y) 0) r)": false, "(ite p q (< 1 (ite q x y)))": false, "(=> p (and q (<= 1 (+ x (* 2 (ite (not p) 1 2))))))": false,
	} {
		wantPure(t, b, read(t, b, text), want)
	}
}

func TestM1PureErrors(t *testing.T) {
	for _, b := range append(unmade(), terms.New(), bank(t)) {
		for _, n := range []int{-1, b.Len(), math.MaxInt, math.MinInt} {
			pure, e := simplify.Pure(b, n)
			wantErr(t, "Pure", e, api.ErrTerm)
			wantTruth(t, "beside the error", pure, false)
		}
	}
}

func TestM1PureDrawn(t *testing.T) {
	for seed := range int64(100) {
		w := draw(t, seed, false)
		for n := range w.bank.Len() {
			wantPure(t, w.bank, n, len(refOf(w.bank).ites(n)) == 0)
		}
	}
}
