package terms_test

import (
	"fmt"
	"strings"
	"testing"

	"fulcrum/api"
	"fulcrum/terms"
)

// readBank is bank with a macro with a parameter, one without, and a term that was named.
func readBank(t *testing.T) *terms.Bank {
	t.Helper()
	b := bank(t)
	define(t, b, "twice", params("aR"), api.SortReal, "(+ a a)")
	define(t, b, "both", params("aB", "bR"), api.SortBool, "(and a (< b x))")
	define(t, b, "nil", nil, api.SortReal, "(+ x 0)")
	read(t, b, "(! (or p q) :named either)")
	return b
}

func TestB4EachForm(t *testing.T) {
	b := readBank(t)
	for in, out := range map[string]string{
		"true": "true", "false": "false", "|true|": "true", "x": "x", "|x|": "x", "p": "p", "7": "7.0", "0": "0.0", "7.50": "(/ 15.0 2.0)", "0.0": "0.0", "nil": "(+ x 0.0)", "either": "(or p q)",
		"(not p)": "(not p)", "(|not| p)": "(not p)", "(and p q)": "(and p q)", "(and p q p)": "(and p q p)", "(or p q)": "(or p q)", "(or p q p q)": "(or p q p q)", "(xor p q)": "(xor p q)", "(xor p q p q)": "(xor (xor (xor p q) p) q)",
		"(=> p q)": "(=> p q)", "(=> p q p q)": "(=> p (=> q (=> p q)))", "(ite p x y)": "(ite p x y)", "(ite p q p)": "(ite p q p)", "(ite p 1 2)": "(ite p 1.0 2.0)",
		"(= x y)": "(= x y)", "(= p q)": "(= p q)", "(= x y 1)": "(and (= x y) (= y 1.0))", "(= p q p q)": "(and (= p q) (= q p) (= p q))", "(distinct x y)": "(distinct x y)", "(distinct p q p)": "(distinct p q p)",
		"(< x y)": "(< x y)", "(<= x y)": "(<= x y)", "(> x y)": "(< y x)", "(>= x y)": "(<= y x)", "(< x y 1)": "(and (< x y) (< y 1.0))", "(<= x y 1 2)": "(and (<= x y) (<= y 1.0) (<= 1.0 2.0))", "(> x y 1)": "(and (< y x) (< 1.0 y))",
		"(>= x y 1 2)": "(and (<= y x) (<= 1.0 y) (<= 2.0 1.0))", "(+ x y)": "(+ x y)", "(+ x 1 2)": "(+ x 1.0 2.0)", "(+ x x)": "(+ x x)", "(- x)": "(* (- 1.0) x)", "(- x y)": "(+ x (* (- 1.0) y))", "(- 1 x 2)": "(+ 1.0 (* (- 1.0) x) (- 2.0))", "(- x 0)": "(+ x 0.0)",
		"(* 2 x)": "(* 2.0 x)", "(* x 2)": "(* 2.0 x)", "(* 2 x 3)": "(* 6.0 x)", "(* 0 x)": "(* 0.0 x)", "(* 1 x)": "(* 1.0 x)", "(/ x 2)": "(* (/ 1.0 2.0) x)", "(/ x 2 4)": "(* (/ 1.0 8.0) x)", "(/ x 1)": "(* 1.0 x)", "(/ (+ x 1) (- 2))": "(* (- (/ 1.0 2.0)) (+ x 1.0))",
		"(twice x)": "(+ x x)", "(twice 2)": "4.0", "(both p 1)": "(and p (< 1.0 x))", "(let ((z 1)) (+ z x))": "(+ 1.0 x)", "(! (not p) :named np)": "(not p)",
	} {
		wantSays(t, b, in, out)
		wantErr(t, "Forget", b.Forget(8), api.OK)
	}
}

// Terms are put from the left on, what they are made of ahead of them, and nothing else.
func TestB4TheOrderOfTerms(t *testing.T) {
	for in, want := range map[string]string{
		"(* 2 x)": "2.0; (* 2.0 x)", "(+ 1 2)": "1.0; 2.0; 3.0", "(- x 2)": "2.0; (- 2.0); (+ x (- 2.0))", "(+ 1 2 4)": "1.0; 2.0; 4.0; 7.0", "(* 2 3 x 5)": "2.0; 3.0; 5.0; (* 30.0 x)", "(/ x 2 3)": "2.0; 3.0; (* (/ 1.0 6.0) x)", "(/ 1 4)": "1.0; 4.0; (/ 1.0 4.0)",
		"(- 5)": "5.0; (- 5.0)", "(- 5 2 4)": "5.0; 2.0; 4.0; (- 1.0)", "(- x y 2)": "2.0; (* (- 1.0) y); (- 2.0); (+ x (* (- 1.0) y) (- 2.0))", "(xor p q p)": "(xor p q); (xor (xor p q) p)", "(=> p q p)": "(=> q p); (=> p (=> q p))", "(=> p q q p)": "(=> q p); (=> q (=> q p)); (=> p (=> q (=> q p)))",
		"(> x y 3)": "3.0; (< y x); (< 3.0 y); (and (< y x) (< 3.0 y))", "(ite true 1 2)": "true; 1.0; 2.0; (ite true 1.0 2.0)", "(let ((a 1) (b 2)) true)": "1.0; 2.0; true", "(and (not p) (not q))": "(not p); (not q); (and (not p) (not q))", "(! 4 :named n)": "4.0", "(f 3)": "3.0; 9.0; (+ 3.0 x); (ite p 9.0 (+ 3.0 x))", "x": "", "(+ 0 0)": "0.0",
	} {
		b := bank(t)
		define(t, b, "f", params("aR"), api.SortReal, "(ite p 9 (+ a x))")
		read(t, b, in)
		var got []string
		for n := 4; n < b.Len(); n++ {
			got = append(got, text(t, b, n))
		}
		wantText(t, in, strings.Join(got, "; "), want)
	}
}

func TestB4Tokens(t *testing.T) {
	b := readBank(t)
	for _, word := range ownWords[2:] {
		wantRefused(t, b, word, api.ErrSyntax, word)
		wantRefused(t, b, "(not "+word+")", api.ErrSyntax, word)
	}
	for _, in := range []string{":named", "\"x\"", "#b1", "#xF"} {
		wantRefused(t, b, in, api.ErrSyntax, in)
		wantRefused(t, b, "(and p "+in+" nobody)", api.ErrSyntax, in)
	}
	wantRefused(t, b, "nobody", api.ErrUnknown, "nobody")
	wantRefused(t, b, "||", api.ErrUnknown, "||")
	wantRefused(t, b, "twice", api.ErrArity, "twice")
	wantRefused(t, b, "(+ x both)", api.ErrArity, "both")
	for _, n := range []api.Node{
		token(api.TokOpen, "("), token(api.TokClose, ")"), token(77, "x"), token(-1, "x"), token(api.TokNumeral, ""), token(api.TokNumeral, "007"), token(api.TokNumeral, "1.5"), token(api.TokNumeral, "-1"), token(api.TokNumeral, "1/2"), token(api.TokNumeral, "x"), token(api.TokNumeral, " 1"),
		token(api.TokDecimal, "1"), token(api.TokDecimal, "1."), token(api.TokDecimal, ".5"), token(api.TokDecimal, "00.5"), token(api.TokDecimal, "1e5"), token(api.TokDecimal, "-1.5"), token(api.TokDecimal, "1.5.5"),
	} {
		was := dump(b)
		for _, in := range []api.Node{n, list(symbol("+"), symbol("x"), n, symbol("nobody"))} {
			v, e, part := b.Read(in)
			wantErr(t, printed(n), e, api.ErrSyntax)
			wantNumber(t, printed(n), v, 0)
			wantText(t, printed(n), full(part), full(n))
		}
		wantText(t, "the bank", dump(b), was)
	}
}

// A list without kids, or with a head that is no symbol, is refused before anything in it is looked at.
func TestB4Heads(t *testing.T) {
	b := readBank(t)
	for _, in := range []string{"()", "(())", "(1 x)", "(1.5)", "(\"and\" p)", "(:named x)", "((and p q) nobody)", "((nobody))", "(#b1 (and))"} {
		wantRefused(t, b, in, api.ErrSyntax, in)
	}
	for _, word := range []string{"true", "false", "_", "as", "BINARY", "DECIMAL", "exists", "forall", "HEXADECIMAL", "match", "NUMERAL", "par", "STRING"} {
		wantRefused(t, b, "("+word+")", api.ErrSyntax, word)
		wantRefused(t, b, "("+word+" nobody (and))", api.ErrSyntax, word)
		wantRefused(t, b, "(not ("+word+" p))", api.ErrSyntax, word)
	}
	for _, head := range []string{"nobody", "||", "Not"} {
		wantRefused(t, b, "("+head+")", api.ErrUnknown, head)
		wantRefused(t, b, "("+head+" (and) other)", api.ErrUnknown, head)
	}
	for _, head := range []string{"x", "p", "nil", "either"} {
		for _, rest := range []string{"", " 1", " p x"} {
			wantRefused(t, b, "("+head+rest+")", api.ErrArity, "("+head+rest+")")
		}
		wantRefused(t, b, "("+head+" (and))", api.ErrArity, "(and)")
		wantRefused(t, b, "("+head+" x nobody)", api.ErrUnknown, "nobody")
	}
	for _, in := range []string{"(let ((twice 1)) (twice x))", "(let ((nobody 1)) (nobody))"} {
		wantRefused(t, b, in, api.ErrArity, in[strings.LastIndex(in, "("):len(in)-1])
	}
	wantRefused(t, b, "(let ((and 1)) (and p q))", api.ErrDeclared, "and")
	wantRefused(t, b, "(n (! p :named n))", api.ErrUnknown, "n")
}

// Each word with too few kids and too many, which is told behind what is wrong with the kids and ahead of their sorts.
func TestB4Arity(t *testing.T) {
	b := readBank(t)
	most := map[string]int{"not": 1, "ite": 3, "twice": 1, "both": 2}
	least := map[string]int{"not": 1, "ite": 3, "-": 1, "twice": 1, "both": 2}
	for _, word := range append(ownWords[2:18:18], "twice", "both") {
		for kids := range 6 {
			low, high := 2, 9
			if n, ok := least[word]; ok {
				low = n
			}
			if n, ok := most[word]; ok {
				high = n
			}
			in := "(" + word + strings.Repeat(" either", kids) + ")"
			if kids < low || kids > high {
				wantRefused(t, b, in, api.ErrArity, in)
				if kids > 0 {
					wantRefused(t, b, "("+word+strings.Repeat(" nobody", kids)+")", api.ErrUnknown, "nobody")
				}
				continue
			}
			if _, e, _ := b.Read(node(in)); e == api.ErrArity {
				t.Fatalf("%s: %d", in, e)
			}
		}
	}
}

func TestB4Sorts(t *testing.T) {
	b := readBank(t)
	for _, in := range []string{
		"(not x)", "(and p x)", "(and x p)", "(and p q 1)", "(or x y)", "(or p x q)", "(xor p x)", "(xor x p)", "(xor p q 1)", "(=> x p)", "(=> p x)", "(=> p q x)", "(ite x x y)", "(ite 1 p q)", "(ite p x q)", "(ite p q x)", "(= x p)", "(= p x)", "(= x y p)", "(= p q x)",
		"(distinct x p)", "(distinct p q x)", "(< p q)", "(< x p)", "(< p x)", "(<= x y p)", "(> p x)", "(>= x p)", "(+ p x)", "(+ x y p)", "(+ 1 2 p)", "(- p)", "(- x p)", "(- 1 p)", "(* 2 p)", "(* p p)", "(* p x y)", "(/ p 2)", "(/ p 0)", "(/ x p)", "(/ 1 p x)",
		"(twice p)", "(both x 1)", "(both p q)", "(both x p)",
	} {
		wantRefused(t, b, in, api.ErrSort, in)
		wantRefused(t, b, "(or p "+in+" nobody)", api.ErrSort, in)
	}
}

func TestB4Linear(t *testing.T) {
	b := readBank(t)
	for _, in := range []string{"(* x x)", "(* x y)", "(* 2 x y)", "(* x 2 y)", "(* x (+ x 1))", "(* nil nil)", "(* x y x)", "(* (ite p 1 2) x)", "(* (* 2 x) (/ x 2))", "(* 0 x y)", "(* (* 0 x) x)", "(* (twice x) x)"} {
		wantRefused(t, b, in, api.ErrLinear, in)
	}
	wantSays(t, b, "(* (twice 2) x)", "(* 4.0 x)")
	wantSays(t, b, "(* (+ 1 2) (- 3) (/ 1 3) x)", "(* (- 3.0) x)")
	wantSays(t, b, "(* 2 (* 3 x))", "(* 2.0 (* 3.0 x))")
	wantSays(t, b, "(let ((two 2)) (* two two x))", "(* 4.0 x)")
}

func TestB4Divide(t *testing.T) {
	b := readBank(t)
	for _, in := range []string{"(/ x 0)", "(/ 1 0)", "(/ 0 0)", "(/ x 0.0)", "(/ x 2 0)", "(/ x 0 2)", "(/ 1 x)", "(/ x x)", "(/ x 2 y)", "(/ x (ite p 1 2))", "(/ 1 (- 0))", "(/ x (- 1 1))", "(/ x (* 0 y))", "(/ x nil)", "(/ x 0 y)"} {
		wantRefused(t, b, in, api.ErrDivide, in)
	}
	wantSays(t, b, "(/ 0 2)", "0.0")
	wantSays(t, b, "(/ 1 3 (- 2))", "(- (/ 1.0 6.0))")
	wantSays(t, b, "(/ x (/ 1 2))", "(* 2.0 x)")
	wantSays(t, b, "(/ x (twice 1))", "(* (/ 1.0 2.0) x)")
}

// Of two things that are wrong the one on the left is told, and inside of a list ahead of the list itself.
func TestB4TheFirstThing(t *testing.T) {
	b := readBank(t)
	for _, c := range []struct {
		in   string
		err  api.Errno
		part string
	}{
		{"(and nobody (or))", api.ErrUnknown, "nobody"}, {"(and (or) nobody)", api.ErrArity, "(or)"}, {"(not (not x) nobody)", api.ErrSort, "(not x)"}, {"(nobody (and))", api.ErrUnknown, "nobody"}, {"(+ p (* x x))", api.ErrLinear, "(* x x)"}, {"(+ (* x x) (/ x 0))", api.ErrLinear, "(* x x)"},
		{"(+ (/ x 0) (* x x))", api.ErrDivide, "(/ x 0)"}, {"(x (and))", api.ErrArity, "(and)"}, {"(twice (and) x)", api.ErrArity, "(and)"}, {"(twice p x)", api.ErrArity, "(twice p x)"}, {"(and (! p :named n) (! q :named n))", api.ErrDeclared, "n"}, {"(* p x x)", api.ErrSort, "(* p x x)"},
		{"(and (let ((x nobody) (x 1)) other) (or))", api.ErrUnknown, "nobody"}, {"(let ((a 1) (and nobody)) other)", api.ErrDeclared, "and"}, {"(let ((a nobody) (and 1)) other)", api.ErrUnknown, "nobody"}, {"(let ((a 1)) (+ b a))", api.ErrUnknown, "b"}, {"(let ((a nobody) b) 1)", api.ErrSyntax, "(let ((a nobody) b) 1)"},
		{"(! nobody :named and)", api.ErrUnknown, "nobody"}, {"(! nobody :name n)", api.ErrSyntax, "(! nobody :name n)"}, {"(and p (true nobody) (or))", api.ErrSyntax, "true"}, {"(ite p (+ x q) (+ x nobody))", api.ErrSort, "(+ x q)"},
	} {
		wantRefused(t, b, c.in, c.err, c.part)
	}
}

func TestB4Let(t *testing.T) {
	b := readBank(t)
	for in, out := range map[string]string{
		"(let ((a 1)) a)": "1.0", "(let ((a x) (b y)) (< a b))": "(< x y)", "(let ((x y) (y x)) (< x y))": "(< y x)", "(let ((x p)) x)": "p", "(let ((a 1)) (let ((b (+ a x))) (< a b)))": "(< 1.0 (+ 1.0 x))", "(let ((a 1)) (let ((a 2) (b a)) (+ a b x)))": "(+ 2.0 1.0 x)",
		"(let ((a 1)) (+ (let ((a 2)) (+ a x)) a))": "(+ (+ 2.0 x) 1.0)", "(let ((a (let ((a 1)) a))) (+ a x))": "(+ 1.0 x)", "(let ((twice 1) (nil 2) (either 3)) (+ twice nil either x))": "(+ 1.0 2.0 3.0 x)", "(let ((|| 1)) (+ || x))": "(+ 1.0 x)", "(let ((a p)) (and a (let ((a q)) a) a))": "(and p q p)",
		"(let ((a 1)) (twice (+ x a)))": "(+ (+ x 1.0) (+ x 1.0))", "(+ (let ((x 1)) x) x)": "(+ 1.0 x)", "(let ((a 1) (b 2) (c 3)) (+ c b a x))": "(+ 3.0 2.0 1.0 x)", "(let ((let1 1)) (+ let1 x))": "(+ 1.0 x)",
	} {
		wantSays(t, b, in, out)
	}
	for _, in := range []string{
		"(let)", "(let ((a 1)))", "(let ((a 1)) a a)", "(let a 1)", "(let 1 1)", "(let () 1)", "(let (a) a)", "(let (a 1) a)", "(let (()) 1)", "(let ((a)) a)", "(let ((a 1 2)) a)", "(let ((1 1)) 1)", "(let ((\"a\" 1)) 1)", "(let ((:a 1)) 1)", "(let (((a) 1)) a)", "(let ((a 1) b) a)", "(let ((a 1) (b)) a)", "(let ((a nobody) ()) nobody)", "(let nobody nobody)",
	} {
		wantRefused(t, b, in, api.ErrSyntax, in)
	}
	for _, word := range ownWords {
		wantRefused(t, b, "(let (("+word+" nobody)) nobody)", api.ErrDeclared, word)
		wantRefused(t, b, "(let ((a 1) ("+word+" nobody)) nobody)", api.ErrDeclared, word)
	}
	wantRefused(t, b, "(let ((a 1) (b 2) (a nobody)) nobody)", api.ErrDeclared, "a")
	wantRefused(t, b, "(let ((a 1) (b a)) b)", api.ErrUnknown, "a")
	wantRefused(t, b, "(+ (let ((a 1)) a) a)", api.ErrUnknown, "a")
	wantRefused(t, b, "(let ((a 1)) nobody)", api.ErrUnknown, "nobody")
	// Names that can't be said may be bound, and said again by tokens that were made by hand.
	v, e, _ := b.Read(list(symbol("let"), list(list(symbol("a|b"), symbol("x")), list(symbol("\x00"), symbol("y"))), list(symbol("<"), symbol("a|b"), symbol("\x00"))))
	wantErr(t, "let", e, api.OK)
	wantText(t, "let", text(t, b, v), "(< x y)")
}

// Many names, bound beside one another and in one another.
func TestB4ManyLets(t *testing.T) {
	b := bank(t)
	const many = 20000
	pairs, sum, deep := list(), list(symbol("+")), list(symbol("+"), symbol("a0"), symbol("a1999"), symbol("a7"))
	for i := range many {
		pairs.Kids = append(pairs.Kids, list(symbol(fmt.Sprint("a", i)), symbol([]string{"x", "y"}[i%2])))
		sum.Kids = append(sum.Kids, symbol(fmt.Sprint("a", many-1-i)))
	}
	n, e, _ := b.Read(list(symbol("let"), pairs, sum))
	wantErr(t, "Read", e, api.OK)
	for i, kid := range get(t, b, n).Kids {
		wantNumber(t, "a kid", kid, 1-i%2)
	}
	for i := range 2000 {
		deep = list(symbol("let"), list(list(symbol(fmt.Sprint("a", 1999-i)), symbol([]string{"x", "y"}[i%2]))), deep)
	}
	n, e, _ = b.Read(deep)
	wantErr(t, "Read", e, api.OK)
	wantText(t, "Read", text(t, b, n), "(+ y x x)")
}

func TestB4Named(t *testing.T) {
	b := bank(t)
	wantNumber(t, "(! x :named a)", read(t, b, "(! x :named a)"), 0)
	wantSays(t, b, "(and (! (not p) :named b) b)", "(and (not p) (not p))")
	wantSays(t, b, "(or (! (! q :named c) :named d) (and c d))", "(or q (and q q))")
	wantSays(t, b, "(let ((z (! (+ x 1) :named e)) (w e)) (< z w e))", "(and (< (+ x 1.0) (+ x 1.0)) (< (+ x 1.0) (+ x 1.0)))")
	wantSays(t, b, "(let ((f 1)) (ite (! p :named f) f 2))", "(ite p 1.0 2.0)")
	wantSays(t, b, "f", "p")
	wantSays(t, b, "(and (let ((g q)) (and (! p :named g) g)) g)", "(and (and p q) p)")
	wantSays(t, b, "(let ((y 3)) (! (< x y) :named h))", "(< x 3.0)")
	wantSays(t, b, "(not h)", "(not (< x 3.0))")
	wantSays(t, b, "(! 2 :named two)", "2.0")
	wantSays(t, b, "(* two two y)", "(* 4.0 y)")
	wantSays(t, b, "(! p :named |a b|)", "p")
	wantSays(t, b, "(and |a b| p)", "(and p p)")
	wantNumber(t, "Names", b.Names(), 14)
	wantText(t, "Declared", fmt.Sprint(b.Declared()), fmt.Sprint(params("xR", "yR", "pB", "qB")))
	wantRefused(t, b, "(and i (! p :named i))", api.ErrUnknown, "i")
	wantRefused(t, b, "(! i :named i)", api.ErrUnknown, "i")
	for _, in := range []string{"(!)", "(! p)", "(! p :named)", "(! p :named i q)", "(! p :name i)", "(! p named i)", "(! p :named 1)", "(! p :named :i)", "(! p :named (i))", "(! p :named \"i\")", "(! p \"named\" i)", "(! nobody :named () )", "(! p :named i :named j)", "(! :named i)"} {
		wantRefused(t, b, in, api.ErrSyntax, printed(node(in)))
	}
	for _, x := range append([]string{"x", "a", "two", "|a b|"}, ownWords...) {
		wantRefused(t, b, "(! p :named "+x+")", api.ErrDeclared, x)
	}
	wantRefused(t, b, "(! p :named ||)", api.ErrPlain, "||")
	n := symbol("a|b")
	_, e, part := b.Read(list(symbol("!"), symbol("p"), token(api.TokKeyword, "named"), n))
	wantErr(t, "a|b", e, api.ErrPlain)
	wantText(t, "a|b", full(part), full(n))
}

// Behind an error nothing has changed: what was named ahead of it is not there, and terms that were put are not.
func TestB10NothingHasChanged(t *testing.T) {
	b := bank(t)
	wantRefused(t, b, "(and (! (not p) :named a) (! (< x 7) :named b) (or a b nobody))", api.ErrUnknown, "nobody")
	wantRefused(t, b, "a", api.ErrUnknown, "a")
	for _, name := range []string{"a", "b"} {
		_, e := b.Declare(name, api.SortReal)
		wantErr(t, name, e, api.OK)
	}
	wantNumber(t, "the next term", read(t, b, "(not p)"), 6)
	wantRefused(t, b, "(ite (not p) (+ x 8) (! (+ x 9) :named a))", api.ErrDeclared, "a")
	wantNumber(t, "the next term", read(t, b, "9"), 7)
	wantNumber(t, "a", read(t, b, "a"), 4)
}

// A part is told as it is handed in, with all that tokens and lists have, also what counts for nothing.
func TestB4ThePartAsItIsHandedIn(t *testing.T) {
	b := bank(t)
	odd := symbol("nobody")
	odd.Kids = []api.Node{list(symbol("a"), token(77, "b")), symbol("x")}
	odd.Token.Begin, odd.Token.End, odd.Token.Line, odd.Token.Column = 3, -1, 8, 1<<40
	x := odd
	x.Token.Text = "x"
	inner := list(symbol("+"), x, symbol("p"))
	inner.Token.Text, inner.Token.Line = "a list", 5
	label := odd
	label.Token.Text = "x"
	for _, c := range []struct {
		in, part api.Node
		err      api.Errno
	}{
		{odd, odd, api.ErrUnknown}, {list(symbol("not"), odd), odd, api.ErrUnknown}, {list(odd, x), odd, api.ErrUnknown}, {list(symbol("not"), inner), inner, api.ErrSort}, {list(symbol("!"), x, token(api.TokKeyword, "named"), label), label, api.ErrDeclared},
		{list(symbol("let"), list(list(x, x), list(label, x)), x), label, api.ErrDeclared},
	} {
		_, e, part := b.Read(c.in)
		wantErr(t, full(c.in), e, c.err)
		wantText(t, "the part", full(part), full(c.part))
		e, part = b.Define("f", nil, api.SortBool, c.in)
		if c.in.Kids == nil || c.in.Kids[0].Token.Text != "!" {
			wantErr(t, full(c.in), e, c.err)
			wantText(t, "the part", full(part), full(c.part))
		}
	}
	v, e, _ := b.Read(x)
	wantErr(t, "a token with kids", e, api.OK)
	wantNumber(t, "a token with kids", v, 0)
	seven := token(api.TokNumeral, "7")
	seven.Kids = []api.Node{token(77, "")}
	v, e, _ = b.Read(seven)
	wantErr(t, "a numeral with kids", e, api.OK)
	wantText(t, "a numeral with kids", text(t, b, v), "7.0")
}

// What a let or a macro says is what stands there with its names put in.
func TestB9LetsAndMacrosSayNothingNew(t *testing.T) {
	b := readBank(t)
	for in, plain := range map[string]string{
		"(let ((a (+ x 1)) (b p)) (ite b a (* 2 a)))": "(ite p (+ x 1) (* 2 (+ x 1)))", "(twice (twice (- x)))": "(+ (+ (- x) (- x)) (+ (- x) (- x)))", "(both (both p 1) (twice y))": "(and (and p (< 1 x)) (< (+ y y) x))", "(let ((a 2)) (twice a))": "(+ 2 2)", "(and either (not either))": "(and (or p q) (not (or p q)))", "(twice nil)": "(+ (+ x 0) (+ x 0))",
	} {
		wantNumber(t, in, read(t, b, in), read(t, b, plain))
	}
}
