package clauses_test

import (
	"math/big"
	"math/rand"
	"slices"
	"testing"

	"fulcrum/api"
	"fulcrum/atoms"
	"fulcrum/simplify"
	"fulcrum/terms"
)

// world is a bank that was drawn, and those of its terms that are of Bool and in normal form.
type world struct {
	*rand.Rand
	t    *testing.T
	bank *terms.Bank
	pool []int
}

// draw puts terms of all kinds that may stand in normal form upon one another, as many as asked for.
func draw(t *testing.T, seed int64, count int) *world {
	t.Helper()
	w := &world{Rand: rand.New(rand.NewSource(seed)), t: t, bank: bank(t)}
	w.pool = []int{0, 1, 2}
	for _, text := range []string{"(<= x 1)", "(> x 1)", "(< (+ x y) 2)", "(>= (* 2 x) (- 1 (* 3 y)))", "(= x y)", "(not p)", "(not r)"} {
		if w.Intn(2) == 0 {
			w.pool = append(w.pool, normal(t, w.bank, text))
		}
	}
	for len(w.pool) < count {
		n := add(t, w.bank, api.TermTrue)
		if said, ok := w.someTerm(); ok {
			n = put(t, w.bank, said)
		}
		if is, _ := simplify.Is(w.bank, n); is && get(t, w.bank, n).Kind != api.TermTrue && !slices.Contains(w.pool, n) {
			w.pool = append(w.pool, n)
		}
	}
	return w
}

// someTerm is one of terms of the pool, if there are enough of them; later ones are chosen more often.
func (w *world) someTerm() (api.Term, bool) {
	kinds := []int{api.TermNot, api.TermAnd, api.TermAnd, api.TermOr, api.TermOr, api.TermIte, api.TermIte, api.TermEqual}
	out := api.Term{Kind: kinds[w.Intn(len(kinds))]}
	kid := func() int { return w.pool[max(w.Intn(len(w.pool)), w.Intn(len(w.pool)))] }
	switch out.Kind {
	case api.TermNot:
		out.Kids = []int{kid()}
	case api.TermAnd, api.TermOr:
		for range 2 + w.Intn(4) {
			out.Kids = append(out.Kids, kid())
		}
	case api.TermIte:
		out.Kids = []int{kid(), kid(), kid()}
		if w.Intn(3) == 0 {
			out.Kids[1+w.Intn(2)] = out.Kids[0]
		}
	case api.TermEqual:
		out.Kids = []int{kid(), kid()}
	}
	if out.Kind != api.TermIte {
		slices.Sort(out.Kids)
		out.Kids = slices.Compact(out.Kids)
	}
	return out, len(out.Kids) > 1 || out.Kind == api.TermNot
}

// someTable has some of the bank's constants and atoms, definitions of some of its terms, and what does not stand in any.
func (w *world) someTable() []api.Atom {
	out := atoms.New()
	for range w.Intn(6) {
		n := w.pool[w.Intn(len(w.pool))]
		switch said := get(w.t, w.bank, n); {
		case said.Kind == api.TermName:
			out, _, _ = atoms.Name(out, said.Name)
		case said.Kind == api.TermLess || said.Kind == api.TermAtMost:
			f, _ := simplify.Affine(w.bank, said.Kids[0])
			at := get(w.t, w.bank, said.Kids[1]).Number
			f.Const = api.Rat{Num: api.Int{Neg: !at.Num.Neg, Abs: at.Num.Abs}, Den: at.Den}
			out, _, _ = atoms.Below(out, f, said.Kind == api.TermLess)
		case said.Kind != api.TermNot && w.Intn(2) == 0:
			out, _, _ = atoms.Name(out, stand(w.t, w.bank, n))
		}
		if w.Intn(4) == 0 {
			out, _, _ = atoms.Name(out, []string{"s", "u", "1*x4 <= 1"}[w.Intn(3)])
			out, _, _ = atoms.Below(out, api.Affine{Form: api.Form{{Var: 6, Coef: ratOf(w.someNumber())}}}, true)
		}
	}
	return out
}

func (w *world) someNumber() *big.Rat {
	return big.NewRat(int64(w.Intn(9)-4), int64(1+w.Intn(3)))
}

// someBinds gives all constants of the bank, and those that are in tables alone, a value.
func (w *world) someBinds() []api.Binding {
	out := bound(refOf(w.bank), func(string) bool { return w.Intn(2) == 0 }, func(string) *big.Rat { return w.someNumber() })
	for _, name := range []string{"u", "1*x4 <= 1"} {
		out = append(out, api.Binding{Name: name, Value: api.Value{Sort: api.SortBool, Bool: w.Intn(2) == 0}})
	}
	return out
}
