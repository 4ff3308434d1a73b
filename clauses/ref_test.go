package clauses_test

import (
	"fmt"
	"math/big"
	"slices"
	"strconv"
	"strings"
	"testing"

	"fulcrum/api"
	"fulcrum/atoms"
	"fulcrum/clauses"
	"fulcrum/meaning"
	"fulcrum/terms"
)

// ref is a bank's terms, read by the chapters' words.
type ref []api.Term

func refOf(b *terms.Bank) ref {
	var out ref
	for n := range b.Len() {
		t, _ := b.Get(n)
		out = append(out, t)
	}
	return out
}

// under is what stands in a term, by rising numbers.
func (r ref) under(n int) []int {
	seen := make([]bool, len(r))
	seen[n] = true
	var out []int
	for ; n >= 0; n-- {
		if seen[n] {
			out = append(out, n)
			for _, kid := range r[n].Kids {
				seen[kid] = true
			}
		}
	}
	slices.Reverse(out)
	return out
}

// weight is what chapter 27 calls so, of normal terms: these have no ites, equals or distincts of Real.
func (r ref) weight(n int) int {
	limbs, amounts, compared := 0, 0, 0
	all := r.under(n)
	for _, n := range all {
		t := r[n]
		switch t.Kind {
		case api.TermNumber, api.TermScale:
			limbs += len(t.Number.Num.Abs) + len(t.Number.Den)
		case api.TermName:
			amounts += t.Sort - api.SortBool
		case api.TermLess, api.TermAtMost:
			compared++
		}
	}
	return len(all) + limbs + compared*(amounts+4)
}

// form is the form that an atom of layer 16 has as its first kid, taken part by part.
func (r ref) form(n int) api.Form {
	var out api.Form
	parts := []int{r[n].Kids[0]}
	if sum := r[parts[0]]; sum.Kind == api.TermAdd {
		parts = sum.Kids
	}
	for _, part := range parts {
		if said := r[part]; said.Kind == api.TermScale {
			out = append(out, api.Mono{Var: said.Kids[0], Coef: said.Number})
		} else {
			out = append(out, api.Mono{Var: part, Coef: api.Rat{Num: api.Int{Abs: api.Nat{1}}, Den: api.Nat{1}}})
		}
	}
	return out
}

// below is what layer 17 makes of an atom of layer 16, by the words of both.
func (r ref) below(t *testing.T, n int) api.Atom {
	t.Helper()
	at := r[r[n].Kids[1]].Number
	f := api.Affine{Form: r.form(n), Const: api.Rat{Num: api.Int{Neg: !at.Num.Neg, Abs: at.Num.Abs}, Den: at.Den}}
	l, lit, e := atoms.Below(atoms.New(), f, r[n].Kind == api.TermLess)
	wantErr(t, "Below", e, api.OK)
	wantInt(t, "Below", lit, 2)
	return l[1]
}

// defined is the term for which a definition's atom stands.
func defined(a api.Atom) (int, bool) {
	digits, ok := strings.CutPrefix(a.Name, "\x00")
	n, err := strconv.Atoi(digits)
	return n, ok && err == nil && strconv.Itoa(n) == digits
}

// encoded is what Encode tells of a term; all that the chapter says of it is looked at, but what the clauses define.
func encoded(t *testing.T, b *terms.Bank, l []api.Atom, n int) api.Encoded {
	t.Helper()
	size := b.Len()
	x, e := clauses.Encode(b, l, n)
	wantErr(t, fmt.Sprint("Encode of ", n), e, api.OK)
	wantInt(t, "the bank's terms", b.Len(), size)
	wantErr(t, "Check of the table", atoms.Check(x.Atoms), api.OK)
	if len(x.Atoms) < len(l) {
		t.Fatal("the table has lost atoms")
	}
	wantTable(t, "the atoms that were there", x.Atoms[:len(l)], l)
	r := refOf(b)
	wantAtoms(t, r, n, x, len(l))
	wantShape(t, r, n, x)
	return x
}

// wantAtoms: all constants of Bool and all atoms of a term are in the table; and nothing is new but these, and definitions of terms that stand there.
func wantAtoms(t *testing.T, r ref, n int, x api.Encoded, old int) {
	t.Helper()
	may, there := map[string]bool{}, map[string]bool{}
	for _, a := range x.Atoms {
		there[short(a)] = true
	}
	for _, n := range r.under(n) {
		said := r[n]
		switch {
		case said.Sort != api.SortBool:
			continue
		case said.Kind == api.TermName:
			a := short(named(said.Name))
			may[a] = true
			wantTruth(t, "in the table: "+a, there[a], true)
		case said.Kind == api.TermLess || said.Kind == api.TermAtMost:
			a := short(r.below(t, n))
			may[a] = true
			wantTruth(t, "in the table: "+a, there[a], true)
		default:
			may[short(named("\x00"+strconv.Itoa(n)))] = true
		}
	}
	for _, a := range x.Atoms[old:] {
		wantTruth(t, "this may be new: "+short(a), may[short(a)], true)
	}
}

// wantShape: normal clauses, none of them twice or always true, of literals of the table; few and short ones; definitions of what stands there.
func wantShape(t *testing.T, r ref, n int, x api.Encoded) {
	t.Helper()
	all := r.under(n)
	kids := 0
	constants := map[string]bool{}
	for _, n := range all {
		kids += len(r[n].Kids)
		constants[r[n].Name] = true
	}
	if most := 4*len(all) + 4*kids; len(x.Clauses) > most {
		t.Fatalf("%d clauses, not at most %d", len(x.Clauses), most)
	}
	seen := map[string]bool{}
	for _, c := range append(slices.Clone(x.Clauses), lits(x.Lit)) {
		if len(c) > kids+2 {
			t.Fatalf("%d literals, not at most %d", len(c), kids+2)
		}
		for i, lit := range c {
			if lit == 0 || abs(lit) > len(x.Atoms) || i > 0 && abs(c[i-1]) >= abs(lit) {
				t.Fatalf("the clause %v over %d atoms", c, len(x.Atoms))
			}
			a := x.Atoms[abs(lit)-1]
			of, ok := defined(a)
			if _, stands := slices.BinarySearch(all, of); ok && !constants[a.Name] && (!stands || r[of].Sort != api.SortBool) {
				t.Fatalf("%v has a definition of %d, which does not stand there", c, of)
			}
		}
	}
	for _, c := range x.Clauses {
		if key := fmt.Sprint(c); seen[key] {
			t.Fatalf("%v stands there twice", c)
		} else {
			seen[key] = true
		}
	}
}

func abs(n int) int { return max(n, -n) }

// valued are bindings by their names.
type valued map[string]api.Value

func valuedBy(v []api.Binding) valued {
	out := valued{}
	for _, one := range slices.Backward(v) {
		out[one.Name] = one.Value
	}
	return out
}

// truths are the values of the terms of Bool that stand in a term, by the words of chapter 15.
func (r ref) truths(n int, v valued) map[int]bool {
	out := map[int]bool{}
	for _, n := range r.under(n) {
		said := r[n]
		kids := said.Kids
		switch said.Kind {
		case api.TermTrue, api.TermFalse:
			out[n] = said.Kind == api.TermTrue
		case api.TermName:
			out[n] = v[said.Name].Bool
		case api.TermNot:
			out[n] = !out[kids[0]]
		case api.TermAnd:
			out[n] = !slices.ContainsFunc(kids, func(kid int) bool { return !out[kid] })
		case api.TermOr:
			out[n] = slices.ContainsFunc(kids, func(kid int) bool { return out[kid] })
		case api.TermEqual:
			out[n] = out[kids[0]] == out[kids[1]]
		case api.TermIte:
			out[n] = out[kids[0]] && out[kids[1]] || !out[kids[0]] && out[kids[2]]
		case api.TermLess, api.TermAtMost:
			order := r.order(n, v)
			out[n] = order < 0 || order == 0 && said.Kind == api.TermAtMost
		}
	}
	return out
}

// order is how an atom's form stands to its number.
func (r ref) order(n int, v valued) int {
	sum := new(big.Rat)
	for _, part := range r.form(n) {
		sum.Add(sum, new(big.Rat).Mul(ratIn(part.Coef), ratIn(v[r[part.Var].Name].Real)))
	}
	return sum.Cmp(ratIn(r[r[n].Kids[1]].Number))
}

// given are values of the atoms by layer 17's Holds under bindings; those of definitions are left out. Each atom is asked in a table of its own, as long ones take long.
func given(t *testing.T, r ref, x api.Encoded, v valued) []bool {
	t.Helper()
	out := make([]bool, len(x.Atoms)+1)
	out[1] = true
	for i, a := range x.Atoms[1:] {
		if _, ok := defined(a); ok {
			continue
		}
		var vals []api.Rat
		for _, part := range a.Form {
			vals = append(vals, make([]api.Rat, part.Var+1-len(vals))...)
			vals[part.Var] = v[r[part.Var].Name].Real
		}
		is, e := atoms.Holds(table(a), 2, vals, []api.Binding{{Name: a.Name, Value: v[a.Name]}})
		wantErr(t, "Holds of "+tellAtom(a), e, api.OK)
		out[i+2] = is
	}
	return out
}

// wantDefined: under bindings the clauses define, by the chapter's words: with all values of the definitions' atoms, if there are few of them; and else as far as units tell, which must tell all.
func wantDefined(t *testing.T, b *terms.Bank, n int, x api.Encoded, v []api.Binding) {
	t.Helper()
	r, by := refOf(b), valuedBy(v)
	truths := r.truths(n, by)
	whole, e := meaning.Eval(b, n, v)
	wantErr(t, "Eval", e, api.OK)
	wantTruth(t, "the term", truths[n], whole.Bool)
	values := given(t, r, x, by)
	free := definitions(x)
	for _, atom := range free {
		of, _ := defined(x.Atoms[atom-1])
		values[atom] = truths[of]
	}
	wantHolds(t, x.Clauses, values, -1)
	wantTruth(t, "the literal", values[abs(x.Lit)] == (x.Lit > 0), whole.Bool)
	if len(free) > 9 {
		wantForced(t, x, free, values)
		return
	}
	for m := range 1 << len(free) {
		for i, atom := range free {
			values[atom] = m>>i&1 == 1
		}
		if at, _ := clauses.Holds(x.Clauses, values); at < 0 && values[abs(x.Lit)] == (x.Lit > 0) != whole.Bool {
			t.Fatalf("of %d, with %v: the clauses %v are true, and %d is wrong", n, values, x.Clauses, x.Lit)
		}
	}
}

// definitions are the definitions' atoms in the clauses and the literal, by rising numbers.
func definitions(x api.Encoded) []int {
	var out []int
	for _, c := range append(slices.Clone(x.Clauses), lits(x.Lit)) {
		for _, lit := range c {
			if _, ok := defined(x.Atoms[abs(lit)-1]); ok {
				out = append(out, abs(lit))
			}
		}
	}
	slices.Sort(out)
	return slices.Compact(out)
}

// wantForced: where the atoms that are not free have these values, units give the free ones theirs.
func wantForced(t *testing.T, x api.Encoded, free []int, values []bool) {
	t.Helper()
	known := slices.Repeat([]bool{true}, len(values))
	for _, atom := range free {
		known[atom] = false
	}
	in := make([][]int, len(values)) // the clauses in which an atom stands
	for i, c := range x.Clauses {
		for _, lit := range c {
			in[abs(lit)] = append(in[abs(lit)], i)
		}
	}
	var open []int
	for i := range x.Clauses {
		open = append(open, i)
	}
	for len(open) > 0 {
		c := x.Clauses[open[len(open)-1]]
		open = open[:len(open)-1]
		var left []int
		for _, lit := range c {
			if !known[abs(lit)] {
				left = append(left, lit)
			} else if values[abs(lit)] == (lit > 0) {
				left = []int{0, 0} // it is true
			}
		}
		if len(left) == 1 && left[0] != 0 {
			wantTruth(t, fmt.Sprint("by units, of ", left[0]), values[abs(left[0])], left[0] > 0)
			known[abs(left[0])] = true
			open = append(open, in[abs(left[0])]...)
		}
	}
	if at := slices.Index(known, false); at >= 0 {
		t.Fatalf("nothing forces the definition %d", at)
	}
}

// bound are bindings of all constants of a bank, by the truths of those of Bool and the numbers of those of Real.
func bound(r ref, is func(name string) bool, value func(name string) *big.Rat) []api.Binding {
	var out []api.Binding
	for _, said := range r {
		if said.Kind != api.TermName {
			continue
		}
		v := api.Value{Sort: said.Sort}
		if said.Sort == api.SortBool {
			v.Bool = is(said.Name)
		} else {
			v.Real = ratOf(value(said.Name))
		}
		out = append(out, api.Binding{Name: said.Name, Value: v})
	}
	return out
}

// ratIn and ratOf are numbers as they are read and as they are written.
func ratIn(r api.Rat) *big.Rat {
	limbs := func(n api.Nat) *big.Int {
		out := new(big.Int)
		for _, limb := range slices.Backward(n) {
			out.Lsh(out, 32).Or(out, big.NewInt(int64(limb)))
		}
		return out
	}
	num, den := limbs(r.Num.Abs), limbs(r.Den)
	if den.Sign() == 0 {
		return new(big.Rat)
	}
	if r.Num.Neg {
		num.Neg(num)
	}
	return new(big.Rat).SetFrac(num, den)
}

func ratOf(r *big.Rat) api.Rat {
	return api.Rat{Num: api.Int{Neg: r.Sign() < 0, Abs: limbsOf(r.Num())}, Den: limbsOf(r.Denom())}
}

func limbsOf(n *big.Int) api.Nat {
	var out api.Nat
	for n := new(big.Int).Abs(n); n.Sign() > 0; n.Rsh(n, 32) {
		out = append(out, uint32(n.Uint64()))
	}
	return out
}
