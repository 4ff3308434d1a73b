package terms_test

import (
	"fmt"
	"strings"
	"testing"

	"fulcrum/api"
	"fulcrum/ratio"
	"fulcrum/sexpr"
	"fulcrum/terms"
)

func wantErr(t *testing.T, what string, got, want api.Errno) {
	t.Helper()
	if got != want {
		t.Fatalf("%s: the error %d, not %d", what, got, want)
	}
}

func wantText(t *testing.T, what, got, want string) {
	t.Helper()
	if got != want {
		t.Fatalf("%s: %q, not %q", what, got, want)
	}
}

func wantNumber(t *testing.T, what string, got, want int) {
	t.Helper()
	if got != want {
		t.Fatalf("%s: %d, not %d", what, got, want)
	}
}

// node is the one S-expression of a text.
func node(text string) api.Node {
	l, e, _ := sexpr.Read(text)
	if e != api.OK || len(l) != 1 {
		panic("not one S-expression: " + text)
	}
	return l[0]
}

func token(kind int, text string) api.Node {
	return api.Node{Token: api.Token{Kind: kind, Text: text}}
}

func symbol(text string) api.Node { return token(api.TokSymbol, text) }

func list(kids ...api.Node) api.Node { return api.Node{Kids: kids} }

// nested puts a node into so many lists of that head.
func nested(head string, n api.Node, lists int) api.Node {
	for range lists {
		n = list(symbol(head), n)
	}
	return n
}

// full is a node with all that it has.
func full(n api.Node) string { return fmt.Sprintf("%+v", n) }

// params is parameters, each a name and behind it B or R.
func params(l ...string) []api.Param {
	var out []api.Param
	for _, s := range l {
		sort := api.SortReal
		if strings.HasSuffix(s, "B") {
			sort = api.SortBool
		}
		out = append(out, api.Param{Name: s[:len(s)-1], Sort: sort})
	}
	return out
}

// bank has the constants x 0 and y 1 of Real, p 2 and q 3 of Bool.
func bank(t *testing.T) *terms.Bank {
	t.Helper()
	b := terms.New()
	for i, p := range params("xR", "yR", "pB", "qB") {
		n, e := b.Declare(p.Name, p.Sort)
		wantErr(t, "Declare of "+p.Name, e, api.OK)
		wantNumber(t, "Declare of "+p.Name, n, i)
	}
	return b
}

// define defines a macro that may be.
func define(t *testing.T, b *terms.Bank, name string, l []api.Param, sort int, body string) {
	t.Helper()
	e, part := b.Define(name, l, sort, node(body))
	wantErr(t, "Define of "+name+" "+body, e, api.OK)
	wantText(t, "Define of "+name, full(part), full(api.Node{}))
}

// read is the term that a text says.
func read(t *testing.T, b *terms.Bank, text string) int {
	t.Helper()
	n, e, part := b.Read(node(text))
	wantErr(t, "Read of "+text, e, api.OK)
	wantText(t, "Read of "+text, full(part), full(api.Node{}))
	return n
}

// text is what a term prints.
func text(t *testing.T, b *terms.Bank, n int) string {
	t.Helper()
	s, e := b.Print(n)
	wantErr(t, fmt.Sprint("Print of ", n), e, api.OK)
	return s
}

// wantSays: a text is read as the term that prints so.
func wantSays(t *testing.T, b *terms.Bank, in, out string) {
	t.Helper()
	wantText(t, in, text(t, b, read(t, b, in)), out)
}

// wantRefused: a text is refused with this error and this part, and nothing has changed.
func wantRefused(t *testing.T, b *terms.Bank, in string, err api.Errno, part string) {
	t.Helper()
	was := dump(b)
	n, e, got := b.Read(node(in))
	wantErr(t, in, e, err)
	wantNumber(t, in, n, 0)
	wantText(t, in+": the part", printed(got), part)
	wantText(t, in+": the bank", dump(b), was)
}

// printed is layer 13's Print, or all that a node has.
func printed(n api.Node) string {
	s, e := sexpr.Print(n)
	if e != api.OK {
		return full(n)
	}
	return s
}

// get is a term that is there.
func get(t *testing.T, b *terms.Bank, n int) api.Term {
	t.Helper()
	out, e := b.Get(n)
	wantErr(t, fmt.Sprint("Get of ", n), e, api.OK)
	return out
}

// wantTerm: the term n is this one, which is normal.
func wantTerm(t *testing.T, b *terms.Bank, n int, want api.Term) {
	t.Helper()
	wantText(t, fmt.Sprint("the term ", n), told(get(t, b, n)), told(want))
}

// told is a term with all that it has; a list without anything is the same as none.
func told(t api.Term) string {
	return fmt.Sprintf("%d %d %q %v %v %v %v", t.Kind, t.Sort, t.Name, t.Number.Num.Neg, t.Number.Num.Abs, t.Number.Den, t.Kids)
}

// dump is all that a bank tells of itself.
func dump(b *terms.Bank) string {
	var out strings.Builder
	fmt.Fprintln(&out, b.Len(), b.Names(), b.Declared())
	for n := range b.Len() {
		t, e := b.Get(n)
		fmt.Fprintln(&out, told(t), e)
	}
	return out.String()
}

// rat is a number by its text.
func rat(s string) api.Rat {
	r, e := ratio.Parse(s)
	if e != api.OK {
		panic("no number: " + s)
	}
	return r
}

func number(s string) api.Term {
	return api.Term{Kind: api.TermNumber, Sort: api.SortReal, Number: rat(s)}
}

func scale(s string, kid int) api.Term {
	return api.Term{Kind: api.TermScale, Sort: api.SortReal, Number: rat(s), Kids: []int{kid}}
}

func name(s string, sort int) api.Term {
	return api.Term{Kind: api.TermName, Sort: sort, Name: s}
}

func truth(kind int, kids ...int) api.Term {
	return api.Term{Kind: kind, Sort: api.SortBool, Kids: kids}
}

func amount(kind int, kids ...int) api.Term {
	return api.Term{Kind: kind, Sort: api.SortReal, Kids: kids}
}
