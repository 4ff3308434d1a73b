package meaning_test

import (
	"fmt"
	"math/rand"
	"testing"

	"fulcrum/api"
	"fulcrum/meaning"
	"fulcrum/terms"
)

// world is a bank that was drawn.
type world struct {
	*rand.Rand
	bank  *terms.Bank
	names []string
}

// draw makes a bank of all kinds of terms: some of its constants stand for terms, some were forgotten and given again with the other sort.
func draw(t *testing.T, seed int64) *world {
	t.Helper()
	w := &world{Rand: rand.New(rand.NewSource(seed)), bank: terms.New(), names: []string{"x", "y", "p", "q", "X", "x1", "é"}}
	odd := w.Intn(3) == 0
	for i, name := range w.names {
		declare(t, w.bank, name, 1+(i/2+1)%2)
	}
	for range 10 + w.Intn(40) {
		w.bank.Add(w.someTerm())
		if w.Intn(12) == 0 {
			n := w.Intn(w.bank.Len())
			stand(t, w.bank, n)
			w.names = append(w.names, fmt.Sprint("\x00", n))
		}
		if odd && w.Intn(25) == 0 {
			wantErr(t, "Forget", w.bank.Forget(0), api.OK)
			for _, name := range w.names[:7] {
				declare(t, w.bank, name, 1+w.Intn(2))
			}
		}
	}
	return w
}

// someTerm is a term of any kind, whose kids are mostly of the sorts that it asks for.
func (w *world) someTerm() api.Term {
	kind := 1 + w.Intn(api.TermScale)
	out := api.Term{Kind: kind, Name: w.names[w.Intn(len(w.names))], Number: w.someRat()}
	switch kind {
	case api.TermNot:
		out.Kids = w.kids(api.SortBool, 1)
	case api.TermAnd, api.TermOr:
		out.Kids = w.kids(api.SortBool, 2+w.Intn(3))
	case api.TermXor, api.TermImplies:
		out.Kids = w.kids(api.SortBool, 2)
	case api.TermIte:
		out.Kids = append(w.kids(api.SortBool, 1), w.kids(1+w.Intn(2), 2)...)
	case api.TermEqual:
		out.Kids = w.kids(1+w.Intn(2), 2)
	case api.TermDistinct:
		out.Kids = w.kids(1+w.Intn(2), 2+w.Intn(3))
	case api.TermLess, api.TermAtMost:
		out.Kids = w.kids(api.SortReal, 2)
	case api.TermAdd:
		out.Kids = w.kids(api.SortReal, 2+w.Intn(3))
	case api.TermScale:
		out.Kids = w.kids(api.SortReal, 1)
	}
	return out
}

// kids is so many terms of a sort.
func (w *world) kids(sort, count int) []int {
	var out []int
	for len(out) < count {
		n := w.Intn(w.bank.Len())
		if t, _ := w.bank.Get(n); t.Sort == sort {
			out = append(out, n)
		}
	}
	return out
}

// someRat is a number that is mostly small, and not always normal.
func (w *world) someRat() api.Rat {
	times := uint32(1 + w.Intn(3))
	out := api.Rat{Num: api.Int{Neg: w.Intn(2) == 0, Abs: api.Nat{uint32(w.Intn(5)) * times}}, Den: api.Nat{uint32(w.Intn(8)/2) * times}}
	if w.Intn(4) == 0 {
		out.Num.Abs = append(out.Num.Abs, uint32(w.Intn(2))*times, 0)
	}
	if w.Intn(10) == 0 {
		out.Den = append(out.Den, 0, times)
	}
	return out
}

// sortOf is the sort of a constant of that name that stands in the bank.
func (w *world) sortOf(name string) int {
	out := api.SortNone
	for n := range w.bank.Len() {
		if t, _ := w.bank.Get(n); t.Kind == api.TermName && t.Name == name {
			out = t.Sort
		}
	}
	return out
}

// someBinds gives most names a value, in any order, mostly of their sorts; some have two, and some bindings are of names that stand nowhere.
func (w *world) someBinds() []api.Binding {
	var out []api.Binding
	oneIn := 2 + w.Intn(60)
	for range 1 + w.Intn(2) {
		for _, i := range w.Perm(len(w.names)) {
			v := api.Value{Sort: w.sortOf(w.names[i]), Bool: w.Intn(2) == 0, Real: w.someRat()}
			if w.Intn(oneIn) == 0 {
				v.Sort = w.Intn(5) - 1
			}
			if w.Intn(oneIn) > 0 {
				out = append(out, api.Binding{Name: w.names[i], Value: v})
			}
		}
	}
	if w.Intn(2) == 0 {
		out = append(out, api.Binding{Name: []string{"", "nobody", "and", "\xff", "\x00"}[w.Intn(5)], Value: api.Value{Sort: w.Intn(4), Bool: true, Real: w.someRat()}})
	}
	return out
}

// someTerms is terms, now and then one that is none, mostly of one sort.
func (w *world) someTerms() []int {
	var out []int
	sort := 1 + w.Intn(8)/7
	for range w.Intn(5) {
		out = append(out, w.kids(sort, 1)...)
		if w.Intn(30) == 0 {
			out = append(out, w.Intn(2)*(w.bank.Len()+1)-1)
		}
	}
	return out
}

// evalOf, namesOf, holdsOf and completeOf are all that a call answers, as a text; the calls are counted by what they answer.

func evalOf(b *terms.Bank, n int, v []api.Binding, counts map[string]int) string {
	got, e := meaning.Eval(b, n, v)
	counts[fmt.Sprint("Eval ", int(e))]++
	return fmt.Sprint(told(got), e)
}

func namesOf(b *terms.Bank, n int) string {
	got, e := meaning.Names(b, n)
	return fmt.Sprintf("%q %d", got, e)
}

func holdsOf(b *terms.Bank, l []int, v []api.Binding, counts map[string]int) string {
	got, e := meaning.Holds(b, l, v)
	if e == api.OK {
		counts[fmt.Sprint("Holds ", got, " 0")]++
	}
	counts[fmt.Sprint("Holds ", int(e))]++
	return fmt.Sprint(got, e)
}

func completeOf(b *terms.Bank, l []int, v []api.Binding, counts map[string]int) string {
	got, e := meaning.Complete(b, l, v)
	counts[fmt.Sprint("Complete ", int(e))]++
	return fmt.Sprint(toldAll(got), e)
}

// answers is all that the four calls say of a bank's terms and of some lists.
func (w *world) answers(v []api.Binding, lists [][]int) string {
	counts := map[string]int{}
	out := ""
	for n := -1; n <= w.bank.Len(); n++ {
		out += evalOf(w.bank, n, v, counts) + namesOf(w.bank, n)
	}
	for _, l := range lists {
		out += holdsOf(w.bank, l, v, counts) + completeOf(w.bank, l, v, counts)
	}
	return out
}
