package simplify_test

import (
	"math/rand"
	"testing"

	"fulcrum/api"
	"fulcrum/simplify"
	"fulcrum/terms"
)

// world is a bank that was drawn.
type world struct {
	*rand.Rand
	bank *terms.Bank
	t    *testing.T
}

// draw makes a bank of all kinds of terms: some of its constants stand for terms; if it is to be pure it has no ites of Real.
func draw(t *testing.T, seed int64, pure bool) *world {
	t.Helper()
	w := &world{Rand: rand.New(rand.NewSource(seed)), bank: bank(t), t: t}
	w.bank.Stand(0)
	w.bank.Stand(3)
	for range 15 + w.Intn(60) {
		said := w.someTerm()
		if pure && said.Kind == api.TermIte && w.sort(said.Kids[1]) == api.SortReal {
			continue
		}
		n, e := w.bank.Add(said)
		wantErr(t, "Add", e, api.OK)
		if w.Intn(6) == 0 && len(refOf(w.bank).ites(n)) == 0 {
			normal(t, w.bank, n) // so that the bank has terms in normal form, too
		}
	}
	return w
}

func (w *world) sort(n int) int {
	return get(w.t, w.bank, n).Sort
}

// someTerm is a term of any kind but a constant.
func (w *world) someTerm() api.Term {
	kinds := []int{api.TermTrue, api.TermFalse, api.TermNumber, api.TermNot, api.TermNot, api.TermAnd, api.TermAnd, api.TermOr, api.TermOr, api.TermXor, api.TermImplies, api.TermIte, api.TermIte, api.TermEqual, api.TermEqual, api.TermDistinct, api.TermLess, api.TermLess, api.TermAtMost, api.TermAtMost, api.TermAdd, api.TermAdd, api.TermScale, api.TermScale}
	out := api.Term{Kind: kinds[w.Intn(len(kinds))], Number: w.someRat()}
	switch out.Kind {
	case api.TermNot:
		out.Kids = w.kids(api.SortBool, 1)
	case api.TermAnd, api.TermOr:
		out.Kids = w.kids(api.SortBool, 2+w.Intn(3))
	case api.TermXor, api.TermImplies:
		out.Kids = w.kids(api.SortBool, 2)
	case api.TermIte:
		out.Kids = append(w.kids(api.SortBool, 1), w.kids(1+w.Intn(2), 2)...)
	case api.TermEqual:
		out.Kids = w.kids(1+w.Intn(2), 2)
	case api.TermDistinct:
		out.Kids = w.kids(1+w.Intn(4)/3, 2+w.Intn(3))
		if w.Intn(2) == 0 {
			out.Kids = w.kids(api.SortReal, 2+w.Intn(2))
		}
	case api.TermLess, api.TermAtMost:
		out.Kids = w.kids(api.SortReal, 2)
	case api.TermAdd:
		out.Kids = w.kids(api.SortReal, 2+w.Intn(3))
	case api.TermScale:
		out.Kids = w.kids(api.SortReal, 1)
	}
	return out
}

// kids is so many terms of a sort; now and then they rise.
func (w *world) kids(sort, count int) []int {
	var out []int
	for len(out) < count {
		if n := w.Intn(w.bank.Len()); w.sort(n) == sort {
			out = append(out, n)
		}
	}
	if w.Intn(3) == 0 {
		for i := range out {
			for j := range i {
				out[i], out[j] = max(out[i], out[j]), min(out[i], out[j])
			}
		}
	}
	return out
}

// someRat is a small number, not always normal.
func (w *world) someRat() api.Rat {
	times := uint32(1 + w.Intn(2))
	return api.Rat{Num: api.Int{Neg: w.Intn(2) == 0, Abs: api.Nat{uint32(w.Intn(4)) * times}}, Den: api.Nat{uint32(1+w.Intn(5)/2) * times, 0}}
}

// someBinds gives all constants of a bank a value, of small numbers, so that many are the same.
func (w *world) someBinds() []api.Binding {
	var out []api.Binding
	for n := range w.bank.Len() {
		if t := get(w.t, w.bank, n); t.Kind == api.TermName {
			v := api.Value{Sort: t.Sort, Bool: w.Intn(2) == 0}
			if t.Sort == api.SortReal {
				v = api.Value{Sort: t.Sort, Real: w.someRat()}
			}
			out = append(out, api.Binding{Name: t.Name, Value: v})
		}
	}
	return out
}

// answers are all that the calls say of a bank's first terms and of some forms.
func (w *world) answers(terms int, forms []api.Affine) []any {
	var out []any
	tell := func(v any, e api.Errno) { out = append(out, v, e) }
	for n := -1; n <= terms; n++ {
		f, e := simplify.Affine(w.bank, n)
		tell(tellAffine(f), e)
		pure, e := simplify.Pure(w.bank, n)
		tell(pure, e)
		is, e := simplify.Is(w.bank, n)
		tell(is, e)
		l, e := simplify.Lift(w.bank, n)
		tell(tellLifted(l), e)
		m, e := simplify.Normal(w.bank, n)
		tell(m, e)
		m, e = simplify.Negate(w.bank, n)
		tell(m, e)
	}
	for _, f := range forms {
		n, e := simplify.Real(w.bank, f)
		tell(n, e)
	}
	return out
}

// someForm has variables that are constants of Real, or now and then anything, in any order, several times.
func (w *world) someForm() api.Affine {
	out := api.Affine{Const: w.someRat()}
	for range w.Intn(6) {
		v := w.Intn(3)
		if w.Intn(12) == 0 {
			v = w.Intn(w.bank.Len()+4) - 2
		}
		out.Form = append(out.Form, api.Mono{Var: v, Coef: w.someRat()})
	}
	return out
}
