package simplify_test

import (
	"fmt"
	"strings"
	"testing"

	"fulcrum/api"
	"fulcrum/meaning"
	"fulcrum/ratio"
	"fulcrum/sexpr"
	"fulcrum/simplify"
	"fulcrum/terms"
)

func wantErr(t *testing.T, what string, got, want api.Errno) {
	t.Helper()
	if got != want {
		t.Fatalf("%s: the error %d, not %d", what, got, want)
	}
}

func wantText(t *testing.T, what, got, want string) {
	t.Helper()
	if got != want {
		t.Fatalf("%s: %q, not %q", what, got, want)
	}
}

func wantTruth(t *testing.T, what string, got, want bool) {
	t.Helper()
	if got != want {
		t.Fatalf("%s: %v, not %v", what, got, want)
	}
}

func wantInt(t *testing.T, what string, got, want int) {
	t.Helper()
	if got != want {
		t.Fatalf("%s: %d, not %d", what, got, want)
	}
}

// declare declares a constant that may be: its term.
func declare(t *testing.T, b *terms.Bank, name string, sort int) int {
	t.Helper()
	n, e := b.Declare(name, sort)
	wantErr(t, "Declare of "+name, e, api.OK)
	return n
}

// bank has the constants x 0, y 1 and z 2 of Real, p 3, q 4 and r 5 of Bool.
func bank(t *testing.T) *terms.Bank {
	t.Helper()
	b := terms.New()
	for _, name := range []string{"x", "y", "z"} {
		declare(t, b, name, api.SortReal)
	}
	for _, name := range []string{"p", "q", "r"} {
		declare(t, b, name, api.SortBool)
	}
	return b
}

// read is the term that a text says.
func read(t *testing.T, b *terms.Bank, text string) int {
	t.Helper()
	l, e, _ := sexpr.Read(text)
	if e != api.OK || len(l) != 1 {
		t.Fatal("not one S-expression: " + text)
	}
	n, e, _ := b.Read(l[0])
	wantErr(t, "Read of "+text, e, api.OK)
	return n
}

func readAll(t *testing.T, b *terms.Bank, texts ...string) []int {
	t.Helper()
	var out []int
	for _, text := range texts {
		out = append(out, read(t, b, text))
	}
	return out
}

func print(t *testing.T, b *terms.Bank, n int) string {
	t.Helper()
	text, e := b.Print(n)
	wantErr(t, fmt.Sprint("Print of ", n), e, api.OK)
	return text
}

// put is the number of a term that may be.
func put(t *testing.T, b *terms.Bank, said api.Term) int {
	t.Helper()
	n, e := b.Add(said)
	wantErr(t, fmt.Sprint("Add of the kind ", said.Kind), e, api.OK)
	return n
}

func add(t *testing.T, b *terms.Bank, kind int, kids ...int) int {
	t.Helper()
	return put(t, b, api.Term{Kind: kind, Kids: kids})
}

func scaled(t *testing.T, b *terms.Bank, times string, kid int) int {
	t.Helper()
	return put(t, b, api.Term{Kind: api.TermScale, Number: rat(times), Kids: []int{kid}})
}

func numbered(t *testing.T, b *terms.Bank, value string) int {
	t.Helper()
	return put(t, b, api.Term{Kind: api.TermNumber, Number: rat(value)})
}

func get(t *testing.T, b *terms.Bank, n int) api.Term {
	t.Helper()
	said, e := b.Get(n)
	wantErr(t, fmt.Sprint("Get of ", n), e, api.OK)
	return said
}

func rat(text string) api.Rat {
	r, e := ratio.Parse(text)
	if e != api.OK {
		panic("no number: " + text)
	}
	return r
}

// affine is a form by its numbers: a variable and its coefficient, and so on, and the constant.
func affine(constant string, parts ...any) api.Affine {
	out := api.Affine{Const: rat(constant)}
	for i := 0; i < len(parts); i += 2 {
		out.Form = append(out.Form, api.Mono{Var: parts[i].(int), Coef: rat(parts[i+1].(string))})
	}
	return out
}

// tellRat is a number with all that it has; a list without anything is the same as none.
func tellRat(r api.Rat) string {
	return fmt.Sprint(r.Num.Neg, r.Num.Abs, r.Den)
}

func tellAffine(f api.Affine) string {
	var out strings.Builder
	for _, part := range f.Form {
		fmt.Fprint(&out, part.Var, ": ", tellRat(part.Coef), ", ")
	}
	return out.String() + tellRat(f.Const)
}

func tellLifted(l api.Lifted) string {
	return fmt.Sprint(l.Term, l.Stands, l.Fixed)
}

// wantAffine: a term has this form.
func wantAffine(t *testing.T, b *terms.Bank, n int, want api.Affine) {
	t.Helper()
	was := b.Len()
	f, e := simplify.Affine(b, n)
	wantErr(t, fmt.Sprint("Affine of ", n), e, api.OK)
	wantText(t, fmt.Sprint("Affine of ", n), tellAffine(f), tellAffine(want))
	wantInt(t, "the bank's terms behind Affine", b.Len(), was)
}

func wantNoAffine(t *testing.T, b *terms.Bank, n int, want api.Errno) {
	t.Helper()
	f, e := simplify.Affine(b, n)
	wantErr(t, fmt.Sprint("Affine of ", n), e, want)
	wantText(t, "beside the error", tellAffine(f), tellAffine(api.Affine{}))
}

// wantReal: a form has the term that prints so.
func wantReal(t *testing.T, b *terms.Bank, f api.Affine, want string) int {
	t.Helper()
	n, e := simplify.Real(b, f)
	wantErr(t, "Real of "+tellAffine(f), e, api.OK)
	wantText(t, "Real of "+tellAffine(f), print(t, b, n), want)
	return n
}

func wantNoReal(t *testing.T, b *terms.Bank, f api.Affine, want api.Errno) {
	t.Helper()
	n, e := simplify.Real(b, f)
	wantErr(t, "Real of "+tellAffine(f), e, want)
	wantInt(t, "beside the error", n, 0)
}

func wantPure(t *testing.T, b *terms.Bank, n int, want bool) {
	t.Helper()
	was := b.Len()
	got, e := simplify.Pure(b, n)
	wantErr(t, fmt.Sprint("Pure of ", n), e, api.OK)
	wantTruth(t, fmt.Sprint("Pure of ", n), got, want)
	wantInt(t, "the bank's terms behind Pure", b.Len(), was)
}

func wantIs(t *testing.T, b *terms.Bank, n int, want bool) {
	t.Helper()
	was := b.Len()
	got, e := simplify.Is(b, n)
	wantErr(t, fmt.Sprint("Is of ", n), e, api.OK)
	wantTruth(t, fmt.Sprint("Is of ", n, ", ", print(t, b, n)), got, want)
	wantInt(t, "the bank's terms behind Is", b.Len(), was)
}

// normal is what Normal tells; it must be in normal form, and speak of no other constants than the term.
func normal(t *testing.T, b *terms.Bank, n int) int {
	t.Helper()
	m, e := simplify.Normal(b, n)
	wantErr(t, fmt.Sprint("Normal of ", n), e, api.OK)
	wantMade(t, b, n, m)
	wantInt(t, "its sort", get(t, b, m).Sort, get(t, b, n).Sort)
	return m
}

func negate(t *testing.T, b *terms.Bank, n int) int {
	t.Helper()
	m, e := simplify.Negate(b, n)
	wantErr(t, fmt.Sprint("Negate of ", n), e, api.OK)
	wantMade(t, b, n, m)
	wantInt(t, "its sort", get(t, b, m).Sort, api.SortBool)
	return m
}

// wantMade: a term that was made of another one is in normal form, by the chapter's words and by Is, and has no constants of its own.
func wantMade(t *testing.T, b *terms.Bank, from, made int) {
	t.Helper()
	wantTruth(t, fmt.Sprint(made, " is in normal form"), refOf(b).isNormal(made), true)
	is, e := simplify.Is(b, made)
	wantErr(t, "Is of what was made", e, api.OK)
	wantTruth(t, "Is of what was made", is, true)
	had := refOf(b).constants(from)
	for c := range refOf(b).constants(made) {
		if _, ok := had[c]; !ok {
			t.Fatalf("%d has the constant %d, which %d has not", made, c, from)
		}
	}
}

// wantNormal: a text's Normal prints so.
func wantNormal(t *testing.T, b *terms.Bank, text, want string) int {
	t.Helper()
	m := normal(t, b, read(t, b, text))
	wantText(t, "Normal of "+text, print(t, b, m), want)
	return m
}

func wantNegate(t *testing.T, b *terms.Bank, text, want string) {
	t.Helper()
	wantText(t, "Negate of "+text, print(t, b, negate(t, b, read(t, b, text))), want)
}

// binds is bindings by their texts, each a name, `=` and a value.
func binds(l ...string) []api.Binding {
	var out []api.Binding
	for _, s := range l {
		name, text, _ := strings.Cut(s, "=")
		v := api.Value{Sort: api.SortBool, Bool: text == "true"}
		if text != "true" && text != "false" {
			v = api.Value{Sort: api.SortReal, Real: rat(text)}
		}
		out = append(out, api.Binding{Name: name, Value: v})
	}
	return out
}

func eval(t *testing.T, b *terms.Bank, n int, v []api.Binding) string {
	t.Helper()
	got, e := meaning.Eval(b, n, v)
	wantErr(t, fmt.Sprint("Eval of ", n), e, api.OK)
	if got.Sort == api.SortBool {
		return fmt.Sprint(got.Bool)
	}
	return ratio.Text(got.Real)
}

// unmade are the banks that nobody made.
func unmade() []*terms.Bank {
	return []*terms.Bank{nil, {}}
}

// dump is all that a bank tells of itself.
func dump(b *terms.Bank) string {
	var out strings.Builder
	fmt.Fprintln(&out, b.Len(), b.Names(), b.Declared())
	for n := range b.Len() {
		t, e := b.Get(n)
		fmt.Fprintln(&out, t.Kind, t.Sort, t.Name, tellRat(t.Number), t.Kids, e)
	}
	return out.String()
}

// chain puts one term on the other, so often.
func chain(t *testing.T, b *terms.Bank, first, count int, next func(last int) api.Term) int {
	t.Helper()
	last := first
	for range count {
		last = put(t, b, next(last))
	}
	return last
}
