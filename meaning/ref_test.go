package meaning_test

import (
	"fmt"
	"math/big"
	"sort"
	"testing"

	"fulcrum/api"
	"fulcrum/terms"
)

// The chapter's words, told plainly: a term's value is a bool or a *big.Rat, worked out by calls in calls.

// ref is a bank under bindings.
type ref struct {
	bank   *terms.Bank
	binds  []api.Binding
	values map[int]any
}

func refOf(b *terms.Bank, l []api.Binding) *ref {
	return &ref{bank: b, binds: l, values: map[int]any{}}
}

func (r *ref) has(n int) bool { return n >= 0 && n < r.bank.Len() }

func (r *ref) hasAll(l []int) bool {
	for _, n := range l {
		if !r.has(n) {
			return false
		}
	}
	return true
}

func (r *ref) get(n int) api.Term {
	t, e := r.bank.Get(n)
	if e != api.OK {
		panic("no such term")
	}
	return t
}

func (r *ref) of(name string) (api.Value, bool) {
	for _, b := range r.binds {
		if b.Name == name {
			return b.Value, true
		}
	}
	return api.Value{}, false
}

func bigInt(a api.Nat) *big.Int {
	out := new(big.Int)
	for i, limb := range a {
		out.Add(out, new(big.Int).Lsh(big.NewInt(int64(limb)), uint(32*i)))
	}
	return out
}

func bigRat(r api.Rat) *big.Rat {
	num, den := bigInt(r.Num.Abs), bigInt(r.Den)
	if den.Sign() == 0 {
		return new(big.Rat)
	}
	if r.Num.Neg {
		num.Neg(num)
	}
	return new(big.Rat).SetFrac(num, den)
}

// limbs is a whole number's limbs, without a nought at the end.
func limbs(n *big.Int) api.Nat {
	var out api.Nat
	n = new(big.Int).Abs(n)
	for n.Sign() != 0 {
		out = append(out, uint32(new(big.Int).And(n, big.NewInt(0xffffffff)).Uint64()))
		n.Rsh(n, 32)
	}
	return out
}

// normal is a bool or a number as answers have it.
func normal(v any) api.Value {
	if truth, ok := v.(bool); ok {
		return api.Value{Sort: api.SortBool, Bool: truth}
	}
	r := v.(*big.Rat)
	return api.Value{Sort: api.SortReal, Real: api.Rat{Num: api.Int{Neg: r.Sign() < 0, Abs: limbs(r.Num())}, Den: limbs(r.Denom())}}
}

// constants are the TermNames that stand in a term.
func (r *ref) constants(n int) map[int]api.Term {
	out, seen := map[int]api.Term{}, map[int]bool{}
	var look func(n int)
	look = func(n int) {
		if seen[n] {
			return
		}
		seen[n] = true
		t := r.get(n)
		if t.Kind == api.TermName {
			out[n] = t
		}
		for _, kid := range t.Kids {
			look(kid)
		}
	}
	look(n)
	return out
}

func (r *ref) valued(n int) bool {
	for _, c := range r.constants(n) {
		if v, ok := r.of(c.Name); !ok || v.Sort != c.Sort {
			return false
		}
	}
	return true
}

// value is that of a term whose constants have values.
func (r *ref) value(n int) any {
	if v, ok := r.values[n]; ok {
		return v
	}
	t := r.get(n)
	var kids []any
	for _, kid := range t.Kids {
		kids = append(kids, r.value(kid))
	}
	v := r.said(t, kids)
	r.values[n] = v
	return v
}

func same(a, b any) bool {
	if x, ok := a.(bool); ok {
		return x == b.(bool)
	}
	return a.(*big.Rat).Cmp(b.(*big.Rat)) == 0
}

func (r *ref) said(t api.Term, kids []any) any {
	switch t.Kind {
	case api.TermTrue:
		return true
	case api.TermFalse:
		return false
	case api.TermName:
		v, _ := r.of(t.Name)
		if t.Sort == api.SortBool {
			return v.Bool
		}
		return bigRat(v.Real)
	case api.TermNumber:
		return bigRat(t.Number)
	case api.TermIte:
		if kids[0].(bool) {
			return kids[1]
		}
		return kids[2]
	case api.TermScale:
		return new(big.Rat).Mul(bigRat(t.Number), kids[0].(*big.Rat))
	case api.TermAdd:
		sum := new(big.Rat)
		for _, kid := range kids {
			sum.Add(sum, kid.(*big.Rat))
		}
		return sum
	case api.TermLess:
		return kids[0].(*big.Rat).Cmp(kids[1].(*big.Rat)) < 0
	case api.TermAtMost:
		return kids[0].(*big.Rat).Cmp(kids[1].(*big.Rat)) <= 0
	case api.TermEqual:
		return same(kids[0], kids[1])
	case api.TermDistinct:
		for i := range kids {
			for j := range i {
				if same(kids[i], kids[j]) {
					return false
				}
			}
		}
		return true
	}
	return connected(t.Kind, kids)
}

func connected(kind int, kids []any) bool {
	truths := 0
	for _, kid := range kids {
		if kid.(bool) {
			truths++
		}
	}
	switch kind {
	case api.TermNot:
		return truths == 0
	case api.TermAnd:
		return truths == len(kids)
	case api.TermOr:
		return truths != 0
	case api.TermXor:
		return truths == 1
	case api.TermImplies:
		return !kids[0].(bool) || kids[1].(bool)
	}
	panic("no such kind")
}

// eval, names, holds and complete tell what the calls of these names must answer.

func (r *ref) eval(n int) string {
	switch {
	case !r.has(n):
		return fmt.Sprint(told(api.Value{}), api.ErrTerm)
	case !r.valued(n):
		return fmt.Sprint(told(api.Value{}), api.ErrValue)
	}
	return fmt.Sprint(told(normal(r.value(n))), api.OK)
}

func (r *ref) names(n int) string {
	if !r.has(n) {
		return fmt.Sprintf("%q %d", []string{}, api.ErrTerm)
	}
	seen := map[string]bool{}
	out := []string{}
	for _, c := range r.constants(n) {
		if !seen[c.Name] {
			out = append(out, c.Name)
		}
		seen[c.Name] = true
	}
	sort.Strings(out)
	return fmt.Sprintf("%q %d", out, api.OK)
}

func (r *ref) holds(l []int) string {
	if !r.hasAll(l) {
		return fmt.Sprint(false, api.ErrTerm)
	}
	for _, n := range l {
		if r.get(n).Sort != api.SortBool {
			return fmt.Sprint(false, api.ErrSort)
		}
	}
	for _, n := range l {
		if !r.valued(n) {
			return fmt.Sprint(false, api.ErrValue)
		}
	}
	all := true
	for _, n := range l {
		all = all && r.value(n).(bool)
	}
	return fmt.Sprint(all, api.OK)
}

func (r *ref) complete(l []int) string {
	if !r.hasAll(l) {
		return fmt.Sprint("", api.ErrTerm)
	}
	sorts := map[string]int{}
	for _, n := range l {
		for _, c := range r.constants(n) {
			v, ok := r.of(c.Name)
			if was, twice := sorts[c.Name]; twice && was != c.Sort || ok && v.Sort != c.Sort {
				return fmt.Sprint("", api.ErrValue)
			}
			sorts[c.Name] = c.Sort
		}
	}
	var out []api.Binding
	for _, b := range r.binds {
		switch b.Value.Sort {
		case api.SortBool:
			b.Value = normal(b.Value.Bool)
		case api.SortReal:
			b.Value = normal(bigRat(b.Value.Real))
		default:
			b.Value = api.Value{Sort: b.Value.Sort}
		}
		out = append(out, b)
	}
	var missing []string
	for name := range sorts {
		if _, ok := r.of(name); !ok {
			missing = append(missing, name)
		}
	}
	sort.Strings(missing)
	for _, name := range missing {
		zero := api.Binding{Name: name, Value: normal(false)}
		if sorts[name] == api.SortReal {
			zero.Value = normal(new(big.Rat))
		}
		out = append(out, zero)
	}
	return fmt.Sprint(toldAll(out), api.OK)
}

// Banks, bindings and lists that are drawn, held against the plain words.
func TestV1ToV4Drawn(t *testing.T) {
	counts := map[string]int{}
	for seed := range int64(400) {
		w := draw(t, seed)
		for range 12 {
			v := w.someBinds()
			r := refOf(w.bank, v)
			for n := -1; n <= w.bank.Len(); n++ {
				wantText(t, fmt.Sprint("Eval of ", n), evalOf(w.bank, n, v, counts), r.eval(n))
				wantText(t, fmt.Sprint("Names of ", n), namesOf(w.bank, n), r.names(n))
			}
			for range 6 {
				l := w.someTerms()
				wantText(t, fmt.Sprint("Holds of ", l), holdsOf(w.bank, l, v, counts), r.holds(l))
				wantText(t, fmt.Sprint("Complete of ", l), completeOf(w.bank, l, v, counts), r.complete(l))
			}
		}
	}
	for _, what := range []string{"Eval 0", "Eval 146", "Eval 150", "Holds true 0", "Holds false 0", "Holds 143", "Holds 146", "Holds 150", "Complete 0", "Complete 146", "Complete 150"} {
		if counts[what] < 100 {
			t.Errorf("%s was seen %d times alone", what, counts[what])
		}
	}
}
