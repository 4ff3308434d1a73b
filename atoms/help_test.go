package atoms_test

import (
	"fmt"
	"math/big"
	"strings"
	"testing"

	"fulcrum/api"
	"fulcrum/atoms"
)

const full = 0xffffffff

// natIn and ratIn are what a Nat and a Rat are read as (DOC.md, 'How a number is read').
func natIn(n api.Nat) *big.Int {
	out := new(big.Int)
	for i := len(n) - 1; i >= 0; i-- {
		out.Lsh(out, 32).Or(out, big.NewInt(int64(n[i])))
	}
	return out
}

func ratIn(r api.Rat) *big.Rat {
	num, den := natIn(r.Num.Abs), natIn(r.Den)
	if den.Sign() == 0 {
		return new(big.Rat)
	}
	if r.Num.Neg {
		num.Neg(num)
	}
	return new(big.Rat).SetFrac(num, den)
}

// limbs, of and num make normal numbers without the program's help.
func limbs(n *big.Int) api.Nat {
	var out api.Nat
	for _, word := range n.Bits() {
		out = append(out, uint32(word), uint32(uint64(word)>>32))
	}
	for len(out) > 0 && out[len(out)-1] == 0 {
		out = out[:len(out)-1]
	}
	return out
}

func of(r *big.Rat) api.Rat {
	return api.Rat{Num: api.Int{Neg: r.Sign() < 0, Abs: limbs(r.Num())}, Den: limbs(r.Denom())}
}

func bigNum(s string) *big.Rat {
	r, ok := new(big.Rat).SetString(s)
	if !ok {
		panic(s)
	}
	return r
}

func num(s string) api.Rat { return of(bigNum(s)) }

// raw is a number as its limbs stand there.
func raw(below bool, abs, den api.Nat) api.Rat {
	return api.Rat{Num: api.Int{Neg: below, Abs: abs}, Den: den}
}

// form is coefficients' texts and variables by turns, as they stand.
func form(l ...any) api.Form {
	var out api.Form
	for i := 0; i < len(l); i += 2 {
		out = append(out, api.Mono{Var: l[i+1].(int), Coef: num(l[i].(string))})
	}
	return out
}

// affine is a constant's text ahead of its form.
func affine(c string, l ...any) api.Affine {
	return api.Affine{Form: form(l...), Const: num(c)}
}

func trueOne() api.Atom { return api.Atom{Bound: num("0")} }

func named(name string) api.Atom { return api.Atom{Name: name, Bound: num("0")} }

// most and under are atoms by their bounds' texts, and coefficients and variables.
func most(at string, l ...any) api.Atom {
	return api.Atom{Form: form(l...), Bound: num(at)}
}

func under(at string, l ...any) api.Atom {
	return api.Atom{Form: form(l...), Bound: num(at), Strict: true}
}

// table is the true atom and others.
func table(l ...api.Atom) []api.Atom {
	return append([]api.Atom{trueOne()}, l...)
}

// plain is a table of all kinds: 2: p, 3: x0 <= 3/2, 4: x0 < 3/2, 5: x0 - 2 x1 < 0, 6: q, 7: 2 x-3 + 3 x0 <= -7.
func plain() []api.Atom {
	return table(named("p"), most("3/2", "1", 0), under("3/2", "1", 0), under("0", "1", 0, "-2", 1), named("q"), most("-7", "2", -3, "3", 0))
}

// truths and falsehoods are bindings of names of Bool.
func truths(l ...string) []api.Binding {
	var out []api.Binding
	for _, name := range l {
		out = append(out, api.Binding{Name: name, Value: api.Value{Sort: api.SortBool, Bool: true}})
	}
	return out
}

func falsehoods(l ...string) []api.Binding {
	out := truths(l...)
	for i := range out {
		out[i].Value.Bool = false
	}
	return out
}

// nums is values by their texts.
func nums(l ...string) []api.Rat {
	var out []api.Rat
	for _, s := range l {
		out = append(out, num(s))
	}
	return out
}

// toldRat, toldForm, toldAtom and told are all that there is, limb by limb; a list without anything is the same as none.
func toldRat(r api.Rat) string {
	return fmt.Sprintf("%v %v/%v", r.Num.Neg, []uint32(r.Num.Abs), []uint32(r.Den))
}

func toldForm(f api.Form) string {
	var out strings.Builder
	for _, part := range f {
		fmt.Fprintf(&out, "(%s) x%d ", toldRat(part.Coef), part.Var)
	}
	return out.String()
}

func toldAffine(f api.Affine) string {
	return toldForm(f.Form) + "and " + toldRat(f.Const)
}

func toldAtom(a api.Atom) string {
	return fmt.Sprintf("%q %sat %s %v", a.Name, toldForm(a.Form), toldRat(a.Bound), a.Strict)
}

func told(l []api.Atom) string {
	var out strings.Builder
	for _, a := range l {
		out.WriteString(toldAtom(a))
		out.WriteByte('\n')
	}
	return out.String()
}

func wantErr(t *testing.T, what string, got, want api.Errno) {
	t.Helper()
	if got != want {
		t.Fatalf("%s: the error %d, not %d", what, got, want)
	}
}

func wantText(t *testing.T, what, got, want string) {
	t.Helper()
	if got != want {
		t.Fatalf("%s: %q, not %q", what, got, want)
	}
}

func wantInt(t *testing.T, what string, got, want int) {
	t.Helper()
	if got != want {
		t.Fatalf("%s: %d, not %d", what, got, want)
	}
}

func wantTruth(t *testing.T, what string, got, want bool) {
	t.Helper()
	if got != want {
		t.Fatalf("%s: %v, not %v", what, got, want)
	}
}

// wantName: the literal of a name, and the table with it.
func wantName(t *testing.T, l []api.Atom, name string, lit int, want []api.Atom) []api.Atom {
	t.Helper()
	got, n, e := atoms.Name(l, name)
	wantErr(t, "Name of "+name, e, api.OK)
	wantInt(t, "Name of "+name, n, lit)
	wantText(t, "the table with "+name, told(got), told(want))
	return got
}

func wantNoName(t *testing.T, what string, l []api.Atom, name string, want api.Errno) {
	t.Helper()
	got, n, e := atoms.Name(l, name)
	wantErr(t, "Name, "+what, e, want)
	wantInt(t, "beside the error", n, 0)
	wantInt(t, "beside the error", len(got), 0)
}

// wantBelow: the literal of an affine form, and the table with it.
func wantBelow(t *testing.T, l []api.Atom, f api.Affine, strict bool, lit int, want []api.Atom) []api.Atom {
	t.Helper()
	what := fmt.Sprintf("Below of %s, strict: %v", toldAffine(f), strict)
	got, n, e := atoms.Below(l, f, strict)
	wantErr(t, what, e, api.OK)
	wantInt(t, what, n, lit)
	wantText(t, what, told(got), told(want))
	return got
}

func wantNotBelow(t *testing.T, what string, l []api.Atom, f api.Affine, strict bool, want api.Errno) {
	t.Helper()
	got, n, e := atoms.Below(l, f, strict)
	wantErr(t, "Below, "+what, e, want)
	wantInt(t, "beside the error", n, 0)
	wantInt(t, "beside the error", len(got), 0)
}

func wantSays(t *testing.T, l []api.Atom, lit int, want api.Affine, strict bool) {
	t.Helper()
	what := fmt.Sprint("Says of ", lit)
	got, s, e := atoms.Says(l, lit)
	wantErr(t, what, e, api.OK)
	wantText(t, what, toldAffine(got), toldAffine(want))
	wantTruth(t, what+", strict", s, strict)
}

func wantSaysNothing(t *testing.T, what string, l []api.Atom, lit int) {
	t.Helper()
	got, s, e := atoms.Says(l, lit)
	wantErr(t, fmt.Sprint("Says of ", lit, ", ", what), e, api.ErrAtom)
	wantText(t, "beside the error", toldAffine(got), toldAffine(api.Affine{}))
	wantTruth(t, "beside the error", s, false)
}

func wantHolds(t *testing.T, l []api.Atom, lit int, vals []api.Rat, names []api.Binding, want bool) {
	t.Helper()
	got, e := atoms.Holds(l, lit, vals, names)
	wantErr(t, fmt.Sprint("Holds of ", lit), e, api.OK)
	wantTruth(t, fmt.Sprint("Holds of ", lit), got, want)
}

func wantNotHeld(t *testing.T, what string, l []api.Atom, lit int, vals []api.Rat, names []api.Binding, want api.Errno) {
	t.Helper()
	got, e := atoms.Holds(l, lit, vals, names)
	wantErr(t, fmt.Sprint("Holds of ", lit, ", ", what), e, want)
	wantTruth(t, "beside the error", got, false)
}

func wantImplies(t *testing.T, l []api.Atom, a, b int, want bool) {
	t.Helper()
	got, e := atoms.Implies(l, a, b)
	wantErr(t, fmt.Sprint("Implies of ", a, " and ", b), e, api.OK)
	wantTruth(t, fmt.Sprint("Implies of ", a, " and ", b), got, want)
}

func wantNotImplied(t *testing.T, what string, l []api.Atom, a, b int) {
	t.Helper()
	got, e := atoms.Implies(l, a, b)
	wantErr(t, fmt.Sprint("Implies of ", a, " and ", b, ", ", what), e, api.ErrAtom)
	wantTruth(t, "beside the error", got, false)
}

func wantLitText(t *testing.T, l []api.Atom, lit int, want string) {
	t.Helper()
	got, e := atoms.Text(l, lit)
	wantErr(t, fmt.Sprint("Text of ", lit), e, api.OK)
	wantText(t, fmt.Sprint("Text of ", lit), got, want)
}

func wantNoText(t *testing.T, what string, l []api.Atom, lit int) {
	t.Helper()
	got, e := atoms.Text(l, lit)
	wantErr(t, fmt.Sprint("Text of ", lit, ", ", what), e, api.ErrAtom)
	wantText(t, "beside the error", got, "")
}
