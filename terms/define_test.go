package terms_test

import (
	"fmt"
	"testing"

	"fulcrum/api"
	"fulcrum/terms"
)

func wantNotDefined(t *testing.T, b *terms.Bank, name string, l []api.Param, sort int, body api.Node, err api.Errno, part string) {
	t.Helper()
	what := fmt.Sprintf("Define of %q %v %d %s", name, l, sort, printed(body))
	was := dump(b)
	e, got := b.Define(name, l, sort, body)
	wantErr(t, what, e, err)
	wantText(t, what+": the part", printed(got), part)
	wantText(t, what+": the bank", dump(b), was)
}

const noPart = "()"

// Of each thing that is wrong the first one is told, in the chapter's order: the sorts, the name, each parameter's name, the body, its sort.
func TestB3TheOrder(t *testing.T) {
	b := bank(t)
	wrongBody := node("(and x)")
	odd := []api.Param{{Name: "a", Sort: api.SortReal}, {Name: "b", Sort: 7}}
	wantNotDefined(t, b, "", odd, 0, wrongBody, api.ErrSort, noPart)
	wantNotDefined(t, b, "x", odd, api.SortReal, wrongBody, api.ErrSort, noPart)
	wantNotDefined(t, b, "f", odd, api.SortReal, node("a"), api.ErrSort, noPart)
	wantNotDefined(t, b, "f", nil, api.SortNone, node("x"), api.ErrSort, noPart)
	wantNotDefined(t, b, "f", nil, 3, node("x"), api.ErrSort, noPart)
	for _, name := range unsaid {
		wantNotDefined(t, b, name, params("andR"), api.SortReal, wrongBody, api.ErrPlain, noPart)
	}
	for _, name := range append([]string{"x", "p"}, ownWords...) {
		wantNotDefined(t, b, name, params("R"), api.SortReal, wrongBody, api.ErrDeclared, noPart)
	}
	for _, name := range unsaid {
		wantNotDefined(t, b, "f", append(params("aR"), api.Param{Name: name, Sort: api.SortReal}, api.Param{Name: "and", Sort: api.SortReal}), api.SortReal, wrongBody, api.ErrPlain, noPart)
	}
	for _, name := range ownWords {
		wantNotDefined(t, b, "f", append(params("aR"), api.Param{Name: name, Sort: api.SortReal}, api.Param{Name: "", Sort: api.SortReal}), api.SortReal, wrongBody, api.ErrDeclared, noPart)
	}
	wantNotDefined(t, b, "f", params("aR", "bB", "aB", "R"), api.SortReal, wrongBody, api.ErrDeclared, noPart)
	wantNotDefined(t, b, "f", params("aR", "R", "aB"), api.SortReal, wrongBody, api.ErrPlain, noPart)
	wantNotDefined(t, b, "f", params("aR"), api.SortBool, wrongBody, api.ErrArity, "(and x)")
	wantNotDefined(t, b, "f", params("aR"), api.SortBool, node("(+ a 1)"), api.ErrSort, "(+ a 1)")
	wantNotDefined(t, b, "f", params("aB"), api.SortReal, node("a"), api.ErrSort, "a")
	wantNotDefined(t, b, "f", params("aB"), api.SortReal, node("(< a 1)"), api.ErrSort, "(< a 1)")
}

// A body is refused as Read refuses it where each parameter is a constant that is nowhere else.
func TestB3WrongBodies(t *testing.T) {
	b := bank(t)
	define(t, b, "g", params("aR"), api.SortReal, "(* 2 a)")
	for _, c := range []struct {
		body string
		err  api.Errno
		part string
	}{
		{"(* a b)", api.ErrLinear, "(* a b)"}, {"(* a a)", api.ErrLinear, "(* a a)"}, {"(* a x)", api.ErrLinear, "(* a x)"}, {"(/ 1 a)", api.ErrDivide, "(/ 1 a)"}, {"(/ a 0)", api.ErrDivide, "(/ a 0)"}, {"(/ a b)", api.ErrDivide, "(/ a b)"},
		{"(+ a c)", api.ErrSort, "(+ a c)"}, {"(a b)", api.ErrArity, "(a b)"}, {"(c)", api.ErrArity, "(c)"}, {"f", api.ErrUnknown, "f"}, {"(f a b c)", api.ErrUnknown, "f"}, {"d", api.ErrUnknown, "d"}, {"(ite c (g c) (g a b))", api.ErrSort, "(g c)"},
		{"(ite c (g a b) (g c))", api.ErrArity, "(g a b)"}, {"g", api.ErrArity, "g"}, {"(* (g a) (g b))", api.ErrLinear, "(* (g a) (g b))"}, {"(/ 1 (g 0))", api.ErrDivide, "(/ 1 (g 0))"}, {"(let ((a 1) (a 2)) a)", api.ErrDeclared, "a"},
		{"(! a :named n)", api.ErrSyntax, "(! a :named n)"}, {"(!)", api.ErrSyntax, "(!)"}, {"(! nobody)", api.ErrSyntax, "(! nobody)"}, {"(+ a (ite c b (! a :named n)))", api.ErrSyntax, "(! a :named n)"}, {"(+ nobody (! a :named n))", api.ErrUnknown, "nobody"},
		{"(let ((z (! a :named n))) z)", api.ErrSyntax, "(! a :named n)"}, {"(let ((z (! a :named n)) (and 1)) z)", api.ErrSyntax, "(! a :named n)"}, {"(let ((z 1)) (! z :named n))", api.ErrSyntax, "(! z :named n)"}, {"(let ((z (! a :named n)) w) z)", api.ErrSyntax, "(let ((z (! a :named n)) w) z)"}, {"()", api.ErrSyntax, "()"}, {"\"a\"", api.ErrSyntax, "\"a\""},
		{"(+)", api.ErrArity, "(+)"}, {"(-)", api.ErrArity, "(-)"}, {"(*)", api.ErrArity, "(*)"}, {"(/)", api.ErrArity, "(/)"}, {"(+ a)", api.ErrArity, "(+ a)"}, {"(* a)", api.ErrArity, "(* a)"}, {"(/ a)", api.ErrArity, "(/ a)"}, {"(ite c a)", api.ErrArity, "(ite c a)"}, {"(g)", api.ErrArity, "(g)"},
	} {
		wantNotDefined(t, b, "f", params("aR", "bR", "cB"), api.SortReal, node(c.body), c.err, c.part)
	}
	wantNotDefined(t, b, "f", nil, api.SortReal, api.Node{}, api.ErrSyntax, "()")
	wantErr(t, "Forget", b.Forget(0), api.OK)
	wantNotDefined(t, b, "f", params("aR"), api.SortReal, node("(+ a x)"), api.ErrUnknown, "x")
}

// Parameters hide what is there: constants, macros, and the macro's own name is none inside.
func TestB3ParametersHide(t *testing.T) {
	b := bank(t)
	define(t, b, "g", params("aR"), api.SortReal, "(+ a x)")
	define(t, b, "g0", nil, api.SortReal, "x")
	define(t, b, "f", params("xB", "gR", "g0R", "fR"), api.SortReal, "(ite x (+ g g0) (let ((g0 f)) (- g0)))")
	wantSays(t, b, "(f p x y 1)", "(ite p (+ x y) (- 1.0))")
	wantNotDefined(t, b, "h", params("gR"), api.SortReal, node("(g 1)"), api.ErrArity, "(g 1)")
	wantNotDefined(t, b, "h", params("g0R"), api.SortReal, node("(g0)"), api.ErrArity, "(g0)")
	wantSays(t, b, "(g y)", "(+ y x)")
}

// What stands where a macro is called counts for nothing inside of it.
func TestB3NamesOutsideDoNotComeIn(t *testing.T) {
	b := bank(t)
	define(t, b, "f", params("aR"), api.SortReal, "(+ a x)")
	define(t, b, "f0", nil, api.SortReal, "(+ y x)")
	define(t, b, "h", params("xR"), api.SortReal, "(f (+ x f0))")
	wantSays(t, b, "(let ((x 1) (a 2)) (f y))", "(+ y x)")
	wantSays(t, b, "(let ((x 1) (y 2)) f0)", "(+ y x)")
	wantSays(t, b, "(let ((x p) (y 2)) (h y))", "(+ (+ 2.0 (+ y x)) x)")
}

// No terms are made, whatever the body; they come when the macro is called, from the left on.
func TestB3NoTermsAreMade(t *testing.T) {
	b := bank(t)
	define(t, b, "f", params("aR"), api.SortBool, "(let ((b (* 5 a))) (and (< b 6) true (= a 7 8)))")
	wantNumber(t, "Len", b.Len(), 4)
	n := read(t, b, "(f y)")
	for i, want := range []string{"5.0", "(* 5.0 y)", "6.0", "(< (* 5.0 y) 6.0)", "true", "7.0", "8.0", "(= y 7.0)", "(= 7.0 8.0)", "(and (= y 7.0) (= 7.0 8.0))", "(and (< (* 5.0 y) 6.0) true (and (= y 7.0) (= 7.0 8.0)))"} {
		wantText(t, fmt.Sprint("the term ", 4+i), text(t, b, 4+i), want)
		wantNumber(t, "the last term", b.Len()-1, n)
	}
	wantNumber(t, "again", read(t, b, "(f y)"), n)
	wantNumber(t, "Len", b.Len(), n+1)
}

// A body says what it says where its parameters are bound to the terms that are handed on: numbers are numbers inside, too.
func TestB3NumbersComeIn(t *testing.T) {
	b := bank(t)
	define(t, b, "f", params("aR", "bR"), api.SortReal, "(+ (* 2 a) (- b) (/ a 4) 1)")
	define(t, b, "five", params("aR"), api.SortReal, "(+ 2 3)")
	define(t, b, "same", params("aR"), api.SortReal, "a")
	wantSays(t, b, "(f x y)", "(+ (* 2.0 x) (* (- 1.0) y) (* (/ 1.0 4.0) x) 1.0)")
	wantSays(t, b, "(f 2 y)", "(+ 4.0 (* (- 1.0) y) (/ 1.0 2.0) 1.0)")
	wantSays(t, b, "(f 2 1)", "(/ 9.0 2.0)")
	wantSays(t, b, "(* (five x) y)", "(* 5.0 y)")
	wantSays(t, b, "(* (same 3) y)", "(* 3.0 y)")
	wantSays(t, b, "(/ y (same 3) (five x))", "(* (/ 1.0 15.0) y)")
	wantRefused(t, b, "(/ y (same 3) (five p))", api.ErrSort, "(five p)")
	define(t, b, "g", params("cR"), api.SortReal, "(* (five c) c)")
	define(t, b, "h", params("cR"), api.SortReal, "(/ c (same 3) (five c))")
	wantSays(t, b, "(g y)", "(* 5.0 y)")
	wantSays(t, b, "(h y)", "(* (/ 1.0 15.0) y)")
	wantNotDefined(t, b, "i", params("cR"), api.SortReal, node("(/ 1 (same c))"), api.ErrDivide, "(/ 1 (same c))")
	wantNotDefined(t, b, "i", params("cR"), api.SortReal, node("(/ 1 (same 0))"), api.ErrDivide, "(/ 1 (same 0))")
	define(t, b, "i", params("cR"), api.SortReal, "(/ 1 (same 2))")
	wantSays(t, b, "(i x)", "(/ 1.0 2.0)")
}

// A term that was named is what it was, in a body, too: also a number.
func TestB3NamedTermsInBodies(t *testing.T) {
	b := bank(t)
	read(t, b, "(! 3 :named three)")
	read(t, b, "(! (+ x 1) :named more)")
	define(t, b, "f", params("aR"), api.SortReal, "(+ (* three a) (/ more three))")
	wantSays(t, b, "(f y)", "(+ (* 3.0 y) (* (/ 1.0 3.0) (+ x 1.0)))")
	wantNotDefined(t, b, "g", params("aR"), api.SortReal, node("(* more a)"), api.ErrLinear, "(* more a)")
}

// tower defines names 0 to high, each of which calls the one below it twice.
func tower(t *testing.T, b *terms.Bank, of, first string, high int) {
	t.Helper()
	define(t, b, of+"0", params("aR"), api.SortReal, first)
	for k := 1; k <= high; k++ {
		define(t, b, fmt.Sprint(of, k), params("aR"), api.SortReal, fmt.Sprintf("(%s%d (%s%d a))", of, k-1, of, k-1))
	}
}

// Macros that call macros again and again: there is no bound on terms in Define, and Read ends as soon as there are too many, or says what it says where there are few.
func TestB3Towers(t *testing.T) {
	b := bank(t)
	tower(t, b, "sum", "(+ a a)", 70)
	tower(t, b, "same", "a", 70)
	tower(t, b, "flip", "(- 1 a)", 70)
	tower(t, b, "next", "(+ a 1)", 70)
	tower(t, b, "more", "(* 2 a)", 70)
	wantNumber(t, "Len", b.Len(), 4)
	wantRefused(t, b, "(sum70 x)", api.ErrFull, "(sum70 x)")
	wantRefused(t, b, "(not (< 1 (next70 0)))", api.ErrFull, "(next70 0)")
	wantRefused(t, b, "(next70 x)", api.ErrFull, "(next70 x)")
	wantRefused(t, b, "(more70 1)", api.ErrLong, "(more70 1)")
	wantSays(t, b, "(more70 0)", "0.0")
	wantSays(t, b, "(same70 x)", "x")
	wantSays(t, b, "(flip70 (/ 1 3))", "(/ 1.0 3.0)")
	wantSays(t, b, "(next10 0.5)", "(/ 2049.0 2.0)")
	wantSays(t, b, "(more4 1)", "65536.0")
	wantNotDefined(t, b, "f", params("aR"), api.SortReal, node("(+ a (more70 1))"), api.ErrLong, "(more70 1)")
	wantNotDefined(t, b, "f", nil, api.SortReal, node("(/ x (next10 (- 1024)))"), api.ErrDivide, "(/ x (next10 (- 1024)))")
	define(t, b, "f", params("aR"), api.SortReal, "(+ a (sum70 x) (more70 0) (next18 7) (/ a (next10 1)))")
	define(t, b, "both0", nil, api.SortBool, "(and p p)")
	for k := 1; k <= 70; k++ {
		define(t, b, fmt.Sprint("both", k), nil, api.SortBool, fmt.Sprintf("(and both%d both%[1]d)", k-1))
	}
	here := b.Len()
	read(t, b, "both70")
	wantNumber(t, "Len", b.Len(), here+71)
}

// Macros in macros in macros: a chain of them is carried out, however long it is.
func TestB3Chains(t *testing.T) {
	const long = 1 << 17
	b := bank(t)
	define(t, b, "g0", params("aR"), api.SortReal, "(+ a x)")
	for k := 1; k < long; k++ {
		if e, _ := b.Define(fmt.Sprint("g", k), params("aR"), api.SortReal, list(symbol(fmt.Sprint("g", k-1)), symbol("a"))); e != api.OK {
			t.Fatal(k, e)
		}
	}
	wantSays(t, b, fmt.Sprintf("(g%d y)", long-1), "(+ y x)")
	wantSays(t, b, fmt.Sprintf("(g%d 1)", long-1), "(+ 1.0 x)")
	define(t, b, "h", nil, api.SortReal, fmt.Sprintf("(g%d 1)", long-1))
}
