package meaning_test

import (
	"fmt"
	"math/big"
	"slices"
	"testing"

	"fulcrum/api"
	"fulcrum/meaning"
	"fulcrum/terms"
)

// A term's value stays, whatever becomes of the bindings of names that do not stand in it, and in whatever order they stand.
func TestV5AValueHangsOnItsConstantsAlone(t *testing.T) {
	changed := 0
	for seed := range int64(200) {
		w := draw(t, seed)
		v := w.someBinds()
		for n := range w.bank.Len() {
			names, _ := meaning.Names(w.bank, n)
			var own, others []api.Binding
			for _, b := range v {
				if slices.Contains(names, b.Name) {
					own = append(own, b)
				}
			}
			for _, b := range w.someBinds() {
				if !slices.Contains(names, b.Name) {
					others = append(others, b)
				}
			}
			want := evalOf(w.bank, n, v, map[string]int{})
			for _, l := range [][]api.Binding{own, slices.Concat(own, others), slices.Concat(others, own)} {
				wantText(t, fmt.Sprint("Eval of ", n), evalOf(w.bank, n, l, map[string]int{}), want)
				changed += len(others)
			}
		}
	}
	if changed == 0 {
		t.Fatal("no binding was changed")
	}
}

func TestV5BehindCompleteTermsHaveValues(t *testing.T) {
	done := 0
	for seed := range int64(300) {
		w := draw(t, seed)
		for range 20 {
			l, v := w.someTerms(), w.someBinds()
			v = v[:w.Intn(len(v)+1)]
			all, e := meaning.Complete(w.bank, l, v)
			if e != api.OK {
				continue
			}
			again, e := meaning.Complete(w.bank, l, all)
			wantErr(t, "Complete again", e, api.OK)
			wantText(t, "Complete again", toldAll(again), toldAll(all))
			for _, n := range l {
				got, e := meaning.Eval(w.bank, n, all)
				wantErr(t, "Eval behind Complete", e, api.OK)
				if was, e := meaning.Eval(w.bank, n, v); e == api.OK {
					wantText(t, "Eval ahead of Complete", told(was), told(got))
				}
				done++
			}
		}
	}
	if done < 1000 {
		t.Fatal("so few terms", done)
	}
}

// chain puts one term on the other as often as a bank has room.
func chain(t *testing.T, b *terms.Bank, first, count int, next func(last int) api.Term) int {
	t.Helper()
	last := first
	for range count {
		n, e := b.Add(next(last))
		wantErr(t, "Add", e, api.OK)
		last = n
	}
	return last
}

// Each term has its kid several times over: there are as many ways down as 2 to so many.
func TestV5DeepTermsAreGoneOverOnce(t *testing.T) {
	const deep = 100000
	for kind, want := range map[int]string{
		api.TermNot: "true", api.TermAnd: "true", api.TermOr: "true", api.TermXor: "false", api.TermImplies: "true", api.TermIte: "true", api.TermEqual: "true", api.TermDistinct: "false",
	} {
		b := terms.New()
		p := declare(t, b, "p", api.SortBool)
		last := chain(t, b, p, deep, func(last int) api.Term {
			kids := []int{last, last, last}
			switch kind {
			case api.TermNot:
				kids = kids[:1]
			case api.TermXor, api.TermImplies, api.TermEqual:
				kids = kids[:2]
			}
			return api.Term{Kind: kind, Kids: kids}
		})
		wantEval(t, b, last, binds("p=true"), want)
		wantNoValue(t, b, last, nil, api.ErrValue)
		wantNames(t, b, last, "p")
		wantHolds(t, b, []int{last, last}, binds("p=true"), want == "true")
		wantComplete(t, b, []int{last, p, last}, nil, binds("p=false"))
	}
}

func TestV5DeepNumbers(t *testing.T) {
	const deep = 20000
	b := bank(t)
	x, p := read(t, b, "x"), read(t, b, "p")
	double := chain(t, b, x, deep, func(last int) api.Term { return api.Term{Kind: api.TermAdd, Kids: []int{last, last}} })
	power := new(big.Rat).SetInt(new(big.Int).Lsh(big.NewInt(3), deep-1))
	v, e := meaning.Eval(b, double, binds("x=3/2"))
	wantErr(t, "Eval", e, api.OK)
	wantText(t, "doubled so often", told(v), told(normal(power)))
	back := chain(t, b, double, deep, func(last int) api.Term {
		return api.Term{Kind: api.TermScale, Number: value("1/2").Real, Kids: []int{last}}
	})
	wantEval(t, b, back, binds("x=3/2"), "3/2")
	choice := chain(t, b, x, deep, func(last int) api.Term { return api.Term{Kind: api.TermIte, Kids: []int{p, last, last}} })
	wantEval(t, b, choice, binds("x=-1/3", "p=false"), "-1/3")
	wantEval(t, b, add(t, b, api.TermEqual, choice, x), binds("x=-1/3", "p=false"), "true")
}

// A bank with as many terms as may be, each in the next one.
func TestV5AFullBank(t *testing.T) {
	b := terms.New()
	p := declare(t, b, "p", api.SortBool)
	last := chain(t, b, p, api.MaxTerms-1, func(last int) api.Term { return api.Term{Kind: api.TermXor, Kids: []int{last, p}} })
	if b.Len() != api.MaxTerms {
		t.Fatal("the bank has room", b.Len())
	}
	wantEval(t, b, last, binds("p=true"), "false") // p is taken MaxTerms times, an even number
	wantEval(t, b, last-1, binds("p=true"), "true")
	wantNoValue(t, b, api.MaxTerms, binds("p=true"), api.ErrTerm)
	for range 20000 { // a small term is not the dearer for what else the bank has
		wantEval(t, b, 1, binds("p=true"), "false")
	}
}
