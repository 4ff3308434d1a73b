package meaning_test

import (
	"fmt"
	"strings"
	"testing"

	"fulcrum/api"
	"fulcrum/meaning"
	"fulcrum/ratio"
	"fulcrum/sexpr"
	"fulcrum/terms"
)

func wantErr(t *testing.T, what string, got, want api.Errno) {
	t.Helper()
	if got != want {
		t.Fatalf("%s: the error %d, not %d", what, got, want)
	}
}

func wantText(t *testing.T, what, got, want string) {
	t.Helper()
	if got != want {
		t.Fatalf("%s: %q, not %q", what, got, want)
	}
}

func wantTruth(t *testing.T, what string, got, want bool) {
	t.Helper()
	if got != want {
		t.Fatalf("%s: %v, not %v", what, got, want)
	}
}

// declare declares a constant that may be: its term.
func declare(t *testing.T, b *terms.Bank, name string, sort int) int {
	t.Helper()
	n, e := b.Declare(name, sort)
	wantErr(t, "Declare of "+name, e, api.OK)
	return n
}

// bank has the constants x, y, z of Real and p, q, r of Bool.
func bank(t *testing.T) *terms.Bank {
	t.Helper()
	b := terms.New()
	for _, name := range []string{"x", "y", "z"} {
		declare(t, b, name, api.SortReal)
	}
	for _, name := range []string{"p", "q", "r"} {
		declare(t, b, name, api.SortBool)
	}
	return b
}

// read is the term that a text says.
func read(t *testing.T, b *terms.Bank, text string) int {
	t.Helper()
	l, e, _ := sexpr.Read(text)
	if e != api.OK || len(l) != 1 {
		t.Fatal("not one S-expression: " + text)
	}
	n, e, _ := b.Read(l[0])
	wantErr(t, "Read of "+text, e, api.OK)
	return n
}

func readAll(t *testing.T, b *terms.Bank, texts ...string) []int {
	t.Helper()
	var out []int
	for _, text := range texts {
		out = append(out, read(t, b, text))
	}
	return out
}

// add is the number of a term that may be.
func add(t *testing.T, b *terms.Bank, kind int, kids ...int) int {
	t.Helper()
	n, e := b.Add(api.Term{Kind: kind, Kids: kids})
	wantErr(t, fmt.Sprint("Add of the kind ", kind), e, api.OK)
	return n
}

func stand(t *testing.T, b *terms.Bank, n int) int {
	t.Helper()
	s, e := b.Stand(n)
	wantErr(t, fmt.Sprint("Stand of ", n), e, api.OK)
	return s
}

// value is a value by its text: `true`, `false`, or a number's.
func value(text string) api.Value {
	if text == "true" || text == "false" {
		return api.Value{Sort: api.SortBool, Bool: text == "true"}
	}
	r, e := ratio.Parse(text)
	if e != api.OK {
		panic("no value: " + text)
	}
	return api.Value{Sort: api.SortReal, Real: r}
}

// binds is bindings by their texts, each a name, `=` and a value.
func binds(l ...string) []api.Binding {
	var out []api.Binding
	for _, s := range l {
		name, text, _ := strings.Cut(s, "=")
		out = append(out, api.Binding{Name: name, Value: value(text)})
	}
	return out
}

// told is a value with all that it has; a list without anything is the same as none.
func told(v api.Value) string {
	return fmt.Sprintf("%d %v %v %v %v", v.Sort, v.Bool, v.Real.Num.Neg, v.Real.Num.Abs, v.Real.Den)
}

func toldAll(l []api.Binding) string {
	var out strings.Builder
	for _, b := range l {
		fmt.Fprintf(&out, "%q %s\n", b.Name, told(b.Value))
	}
	return out.String()
}

// wantEval: a term has this value, by its text.
func wantEval(t *testing.T, b *terms.Bank, n int, l []api.Binding, want string) {
	t.Helper()
	v, e := meaning.Eval(b, n, l)
	wantErr(t, fmt.Sprint("Eval of ", n), e, api.OK)
	wantText(t, fmt.Sprint("Eval of ", n), told(v), told(value(want)))
}

// wantSays: what a text says has this value.
func wantSays(t *testing.T, b *terms.Bank, text string, l []api.Binding, want string) {
	t.Helper()
	v, e := meaning.Eval(b, read(t, b, text), l)
	wantErr(t, text, e, api.OK)
	wantText(t, text+" with "+toldAll(l), told(v), told(value(want)))
}

// wantNoValue: Eval answers this error, and nothing beside it.
func wantNoValue(t *testing.T, b *terms.Bank, n int, l []api.Binding, want api.Errno) {
	t.Helper()
	v, e := meaning.Eval(b, n, l)
	wantErr(t, fmt.Sprint("Eval of ", n, " with ", toldAll(l)), e, want)
	wantText(t, "beside the error", told(v), told(api.Value{}))
}

func wantNames(t *testing.T, b *terms.Bank, n int, want ...string) {
	t.Helper()
	l, e := meaning.Names(b, n)
	wantErr(t, fmt.Sprint("Names of ", n), e, api.OK)
	wantText(t, fmt.Sprint("Names of ", n), fmt.Sprintf("%q", l), fmt.Sprintf("%q", want))
}

func wantHolds(t *testing.T, b *terms.Bank, l []int, v []api.Binding, want bool) {
	t.Helper()
	got, e := meaning.Holds(b, l, v)
	wantErr(t, fmt.Sprint("Holds of ", l), e, api.OK)
	wantTruth(t, fmt.Sprint("Holds of ", l), got, want)
}

func wantNotHeld(t *testing.T, b *terms.Bank, l []int, v []api.Binding, want api.Errno) {
	t.Helper()
	got, e := meaning.Holds(b, l, v)
	wantErr(t, fmt.Sprint("Holds of ", l), e, want)
	wantTruth(t, "beside the error", got, false)
}

func wantComplete(t *testing.T, b *terms.Bank, l []int, v, want []api.Binding) {
	t.Helper()
	got, e := meaning.Complete(b, l, v)
	wantErr(t, fmt.Sprint("Complete of ", l), e, api.OK)
	wantText(t, fmt.Sprint("Complete of ", l), toldAll(got), toldAll(want))
}

func wantIncomplete(t *testing.T, b *terms.Bank, l []int, v []api.Binding, want api.Errno) {
	t.Helper()
	got, e := meaning.Complete(b, l, v)
	wantErr(t, fmt.Sprint("Complete of ", l), e, want)
	wantText(t, "beside the error", toldAll(got), "")
}

// unmade are the banks that nobody made.
func unmade() []*terms.Bank {
	return []*terms.Bank{nil, {}}
}

// dump is all that a bank tells of itself.
func dump(b *terms.Bank) string {
	var out strings.Builder
	fmt.Fprintln(&out, b.Len(), b.Names(), b.Declared())
	for n := range b.Len() {
		t, e := b.Get(n)
		fmt.Fprintln(&out, t, e)
	}
	return out.String()
}

// oddSorts are sorts that are none.
var oddSorts = []int{api.SortNone, 3, -1, 77}

// twoSorts is a bank in which x, a constant of Real, was forgotten and given again as one of Bool: the terms of both, and one in which both stand.
func twoSorts(t *testing.T) (b *terms.Bank, amount, truth, both int) {
	t.Helper()
	b = terms.New()
	amount = declare(t, b, "x", api.SortReal)
	wantErr(t, "Forget", b.Forget(0), api.OK)
	truth = declare(t, b, "x", api.SortBool)
	return b, amount, truth, add(t, b, api.TermAnd, truth, add(t, b, api.TermLess, amount, read(t, b, "1")))
}
