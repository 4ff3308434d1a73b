package terms_test

import (
	"fmt"
	"math/rand"
	"slices"
	"sync"
	"testing"

	"fulcrum/api"
	"fulcrum/ratio"
	"fulcrum/terms"
)

// filler is numbers that none of these tests says otherwise.
var filler = sync.OnceValue(func() []api.Term {
	out := make([]api.Term, api.MaxTerms+1)
	for i := range out {
		out[i] = api.Term{Kind: api.TermNumber, Number: ratio.Whole(int64(fillerFrom + i))}
	}
	return out
})

// fullBank is a bank with the constants x, y, p, q behind filler, and room for so many terms more: the term of x.
func fullBank(t *testing.T, room int) (*terms.Bank, int) {
	t.Helper()
	at := api.MaxTerms - room - 4
	b, e := terms.Load(append(slices.Clone(filler()[:at]), base()[:4]...), params("xR", "yR", "pB", "qB"))
	wantErr(t, "Load", e, api.OK)
	wantNumber(t, "Len", b.Len(), api.MaxTerms-room)
	return b, at
}

func TestB6TheLimit(t *testing.T) {
	b, e := terms.Load(filler()[:api.MaxTerms], nil)
	wantErr(t, "Load", e, api.OK)
	wantNumber(t, "Len", b.Len(), api.MaxTerms)
	wantNotLoaded(t, filler(), nil, api.ErrFull)
	wantNotLoaded(t, make([]api.Term, api.MaxTerms+1), params("R"), api.ErrFull)
	wantNotLoaded(t, make([]api.Term, api.MaxTerms), nil, api.ErrSyntax)
}

// wantFull: a text is refused for want of room, with this part.
func wantFull(t *testing.T, b *terms.Bank, in, part string) {
	t.Helper()
	terms, names := b.Len(), b.Names()
	n, e, got := b.Read(node(in))
	wantErr(t, in, e, api.ErrFull)
	wantNumber(t, in, n, 0)
	wantText(t, in, printed(got), part)
	wantNumber(t, in, b.Len(), terms)
	wantNumber(t, in, b.Names(), names)
}

// A full bank: what is there is said, and what is not is ErrFull, told of a token, a list, or the list or symbol that calls a macro.
func TestB1TheLimit(t *testing.T) {
	b, x := fullBank(t, 0)
	define(t, b, "f", params("aR"), api.SortReal, "(ite p a (+ a a))")
	define(t, b, "g", nil, api.SortBool, "(and p (not q))")
	define(t, b, "same", params("aR"), api.SortReal, "a")
	define(t, b, "deep", nil, api.SortReal, "(same (f 1000000))")
	wantAdd(t, b, number("1000000"), 0)
	wantAdd(t, b, name("x", 0), x)
	for _, in := range []api.Term{number("1"), truth(api.TermTrue), truth(api.TermNot, x+2), amount(api.TermAdd, 0, 0)} {
		n, e := b.Add(in)
		wantErr(t, "Add", e, api.ErrFull)
		wantNumber(t, "Add", n, 0)
	}
	for _, c := range []struct {
		in  api.Term
		err api.Errno
	}{{truth(api.TermNot, x), api.ErrSort}, {name("nobody", 0), api.ErrUnknown}, {truth(api.TermNot, api.MaxTerms), api.ErrTerm}, {truth(api.TermNot), api.ErrArity}, {api.Term{}, api.ErrSyntax}} {
		_, e := b.Add(c.in)
		wantErr(t, "Add", e, c.err)
	}
	n, e := b.Declare("z", api.SortReal)
	wantErr(t, "Declare", e, api.ErrFull)
	wantNumber(t, "Declare", n, 0)
	n, e = b.Stand(x)
	wantErr(t, "Stand", e, api.ErrFull)
	wantNumber(t, "Stand", n, 0)
	wantNumber(t, "Names", b.Names(), 8)
	for in, part := range map[string]string{
		"1": "1", "true": "true", "(not p)": "(not p)", "(+ x 1)": "1", "(+ x y)": "(+ x y)", "(and p (or q p) (xor p q))": "(or q p)", "(f x)": "(f x)", "(same (f x))": "(f x)", "g": "g", "(and g p)": "g", "deep": "deep", "(let ((a (not p))) a)": "(not p)", "(let ((a p)) (xor a a a))": "(xor a a a)",
		"(and (! p :named n) (! (not p) :named m))": "(not p)", "(+ 1000000 1000000)": "(+ 1000000 1000000)", "(* 1000000 x)": "(* 1000000 x)", "(- 1000000)": "(- 1000000)", "(- x 1000000)": "(- x 1000000)", "(> x y 1000000)": "(> x y 1000000)", "(=> p q p)": "(=> p q p)", "(/ 1000000 1000001)": "(/ 1000000 1000001)",
	} {
		wantFull(t, b, in, part)
	}
	for in, want := range map[string]int{"x": x, "(! p :named n)": x + 2, "(let ((a 1000007)) a)": 7, "(same (same y))": x + 1, "(+ 1000000 (- 1000003 1000002) 1)": -1, "(- 1000007 1000000 1000001)": -1, "(same 1000005)": 5} {
		n, e, _ := b.Read(node(in))
		if want < 0 {
			wantErr(t, in, e, api.ErrFull)
			continue
		}
		wantErr(t, in, e, api.OK)
		wantNumber(t, in, n, want)
	}
	wantErr(t, "Forget", b.Forget(0), api.OK)
	n, e = b.Declare("q", api.SortBool)
	wantErr(t, "a name that is given again", e, api.OK)
	wantNumber(t, "a name that is given again", n, x+3)
	_, e = b.Declare("q2", api.SortBool)
	wantErr(t, "a new name", e, api.ErrFull)
}

// What is wrong with a list itself is told in its order, ErrFull last of all; and on the left ahead of what is further right.
func TestB4FullIsTheLastError(t *testing.T) {
	b, _ := fullBank(t, 0)
	long := power(bitsOfMost - 1)
	n, e := b.Declare("n", api.SortReal)
	wantErr(t, "Declare", e, api.ErrFull)
	wantNumber(t, "Declare", n, 0)
	for _, c := range []struct {
		in  string
		err api.Errno
	}{{"(* x y)", api.ErrLinear}, {"(/ x y)", api.ErrDivide}, {"(+ x p)", api.ErrSort}, {"(+ x)", api.ErrArity}, {"(nobody)", api.ErrUnknown}, {"(* x " + long + " y)", api.ErrFull}, {"(and (not p) nobody)", api.ErrFull}, {"(and nobody (not p))", api.ErrUnknown}, {"(let ((a (not p)) (and p)) p)", api.ErrFull}, {"(! (not p) :named p)", api.ErrFull}, {"(! p :named p)", api.ErrDeclared}} {
		_, e, _ := b.Read(node(c.in))
		wantErr(t, c.in, e, c.err)
	}
	// With the long number in the bank the product is too long, and there is no room for it.
	l := append(slices.Clone(filler()[:api.MaxTerms-2]), name("x", api.SortReal), number(long))
	b, e = terms.Load(l, params("xR"))
	wantErr(t, "Load", e, api.OK)
	define(t, b, "double", params("aR"), api.SortReal, "(+ a a)")
	for in, want := range map[string]api.Errno{"(* %s %[1]s)": api.ErrLong, "(* %s %[1]s x)": api.ErrLong, "(* %s x)": api.ErrFull, "(+ %s %[1]s)": api.ErrLong, "(double %s)": api.ErrLong, "(- %s)": api.ErrFull, "(- x %s)": api.ErrFull, "(/ x %s %[1]s)": api.ErrLong} {
		in = fmt.Sprintf(in, long)
		_, e, part := b.Read(node(in))
		wantErr(t, in[:9], e, want)
		wantText(t, "the part", printed(part), in)
	}
}

// Define has no bound on terms, and makes none.
func TestB3AFullBank(t *testing.T) {
	b, _ := fullBank(t, 0)
	define(t, b, "f", params("aR", "bB"), api.SortReal, "(let ((c (+ a 1 2 3))) (ite (and b (not b) true) (* 7 c) (- x)))")
	define(t, b, "g", params("aR"), api.SortBool, "(< (f a p) (f 5 (= a x y)) (- 5))")
	wantNumber(t, "Len", b.Len(), api.MaxTerms)
	wantFull(t, b, "(g x)", "(g x)")
	wantFull(t, b, "(g 1)", "1")
	wantNotLong(t, b)
}

// wantNotLong: what is wrong with a body is told all the same.
func wantNotLong(t *testing.T, b *terms.Bank) {
	t.Helper()
	e, part := b.Define("h", params("aR"), api.SortReal, node("(+ 8 9 (* a a))"))
	wantErr(t, "Define", e, api.ErrLinear)
	wantText(t, "Define", printed(part), "(* a a)")
	wantNumber(t, "Len", b.Len(), api.MaxTerms)
}

// Banks with little room, against the chapter's words: which part is told when the last term is put, and that nothing has changed.
func TestB4LittleRoom(t *testing.T) {
	seen := map[string]int{}
	for seed, room := range []int{12, 3} {
		b, at := fullBank(t, room)
		w := newWalk(t, rand.New(rand.NewSource(int64(seed))), 200)
		w.b, w.m.filler, w.seen = b, at, seen
		for i, p := range params("xR", "yR", "pB", "qB") {
			w.m.terms = append(w.m.terms, entry{kind: api.TermName, name: p.Name, sort: p.Sort})
			w.m.things = append(w.m.things, item{name: p.Name, sort: p.Sort, constant: true, isTerm: true, term: at + i})
		}
		w.define("f", params("aR", "bB"), api.SortReal, node("(ite b (+ a x) (* 2 a))"))
		w.define("g", params("aB"), api.SortBool, node("(xor a p (not a))"))
		w.define("h", nil, api.SortReal, node("(f 3 (g q))"))
		for range 3000 {
			switch w.d.Intn(20) {
			case 0:
				w.add(w.someTerm())
			case 1:
				w.stand(at - 2 + w.d.Intn(8))
			case 2:
				w.declare(w.d.pick("u", "v", "x"), 1+w.d.Intn(2))
			case 3:
				w.forget(max(7, w.b.Names()-1))
			default:
				w.read(w.d.part(1+w.d.Intn(2), 1+w.d.Intn(3)))
			}
		}
		wantNumber(t, "Len", w.b.Len(), api.MaxTerms)
	}
	for _, want := range []string{"Read 0", "Read 2", "Add 2", "Stand 2", "Declare 2"} {
		if seen[want] < 5 {
			t.Errorf("%s was drawn %d times: %v", want, seen[want], seen)
		}
	}
}
