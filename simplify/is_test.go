package simplify_test

import (
	"fmt"
	"math"
	"testing"

	"fulcrum/api"
	"fulcrum/simplify"
	"fulcrum/terms"
)

// wantForms: what Is says of terms, the chapter's words and Normal agree with.
func wantForms(t *testing.T, b *terms.Bank, want bool, l ...int) {
	t.Helper()
	for _, n := range l {
		wantTruth(t, fmt.Sprint("the words, of ", print(t, b, n)), refOf(b).isNormal(n), want)
		wantIs(t, b, n, want)
		if pure, _ := simplify.Pure(b, n); pure {
			wantTruth(t, fmt.Sprint("Normal is the same, of ", print(t, b, n)), normal(t, b, n) == n, want)
		}
	}
}

func TestM1IsOfReal(t *testing.T) {
	b := bank(t)
	y2, x3 := scaled(t, b, "2", 1), scaled(t, b, "-1/3", 0) // the later variable has the earlier term
	one, zero := numbered(t, b, "1"), numbered(t, b, "0")
	sum := add(t, b, api.TermAdd, 0, 1)
	wantForms(t, b, true, 0, 2, one, zero, y2, x3, sum, add(t, b, api.TermAdd, x3, y2), add(t, b, api.TermAdd, 0, y2, 2, one), add(t, b, api.TermAdd, 0, one), add(t, b, api.TermAdd, x3, 1, numbered(t, b, "-1/2")))
	wantForms(t, b, false,
		scaled(t, b, "1", 0), scaled(t, b, "0", 0), scaled(t, b, "2", one), scaled(t, b, "2", zero), scaled(t, b, "2", y2), scaled(t, b, "2", sum), scaled(t, b, "-1", scaled(t, b, "1", 2)),
		add(t, b, api.TermAdd, 1, 0), add(t, b, api.TermAdd, y2, x3), add(t, b, api.TermAdd, 0, 0), add(t, b, api.TermAdd, 0, x3), add(t, b, api.TermAdd, y2, 1), add(t, b, api.TermAdd, 0, 2, 1),
		add(t, b, api.TermAdd, 0, zero), add(t, b, api.TermAdd, one, 0), add(t, b, api.TermAdd, 0, one, 1), add(t, b, api.TermAdd, 0, one, one), add(t, b, api.TermAdd, one, one), add(t, b, api.TermAdd, zero, zero),
		add(t, b, api.TermAdd, 0, scaled(t, b, "1", 1)), add(t, b, api.TermAdd, 0, scaled(t, b, "0", 1)), add(t, b, api.TermAdd, sum, 2), add(t, b, api.TermAdd, 0, scaled(t, b, "2", sum)), add(t, b, api.TermAdd, 0, scaled(t, b, "2", one)))
	ite := add(t, b, api.TermIte, 3, 0, 1)
	wantForms(t, b, false, ite, scaled(t, b, "2", ite), add(t, b, api.TermAdd, 0, ite))
}

func TestM1IsOfAtoms(t *testing.T) {
	b := bank(t)
	one, zero, half := numbered(t, b, "1"), numbered(t, b, "0"), numbered(t, b, "1/2")
	y2, y3, yLess, x2, xHalf, xLess := scaled(t, b, "2", 1), scaled(t, b, "3", 1), scaled(t, b, "-1", 1), scaled(t, b, "2", 0), scaled(t, b, "1/2", 0), scaled(t, b, "-1", 0)
	for _, kind := range []int{api.TermLess, api.TermAtMost} {
		of := func(first, second int) int { return add(t, b, kind, first, second) }
		with := func(kids ...int) int { return of(add(t, b, api.TermAdd, kids...), one) }
		wantForms(t, b, true, of(0, one), of(2, zero), of(1, half), with(0, 1), with(0, y2), with(0, yLess), with(x2, y3), with(x2, yLess, 2), of(add(t, b, api.TermAdd, 0, 1), zero))
		wantForms(t, b, false,
			of(0, 1), of(one, 0), of(one, one), of(0, y2), of(0, add(t, b, api.TermAdd, 0, one)), // no number behind, or no variable ahead
			of(x2, one), of(xHalf, one), of(xLess, one), with(x2, y2), with(xHalf, 1), with(0, scaled(t, b, "1/3", 1)), with(xLess, 1), with(scaled(t, b, "-2", 0), y3), with(scaled(t, b, "4", 0), scaled(t, b, "6", 1)), // no Prime's shape
			with(0, one), with(0, 1, one), with(0, zero), with(1, 0), with(0, 0), of(scaled(t, b, "1", 0), one), of(scaled(t, b, "0", 0), one)) // a constant, or no form's term
		wantForms(t, b, false, of(add(t, b, api.TermIte, 3, 0, 1), one), of(0, add(t, b, api.TermIte, 3, one, one)))
	}
}

func TestM1IsOfTruths(t *testing.T) {
	b := bank(t)
	yes, no := add(t, b, api.TermTrue), add(t, b, api.TermFalse)
	atom, line := read(t, b, "(< x 1)"), read(t, b, "(= x 1)")
	equal, ite := add(t, b, api.TermEqual, 3, 4), add(t, b, api.TermIte, 3, 4, 5)
	and, or := add(t, b, api.TermAnd, 3, 4), add(t, b, api.TermOr, 3, 4)
	s, _ := b.Stand(3)
	wantForms(t, b, true, yes, no, 3, s, atom, equal, ite, and, or)
	not := func(n int) int { return add(t, b, api.TermNot, n) }
	wantForms(t, b, true, not(3), not(s), not(atom), not(equal), not(ite))
	bad := []int{read(t, b, "(< 1 x)"), line, add(t, b, api.TermXor, 3, 4), add(t, b, api.TermImplies, 3, 4), add(t, b, api.TermDistinct, 3, 4), add(t, b, api.TermDistinct, 0, 1), add(t, b, api.TermDistinct, 3, 4, 5), add(t, b, api.TermEqual, 4, 3), add(t, b, api.TermEqual, 3, 3), add(t, b, api.TermAnd, 4, 3)}
	wantForms(t, b, false, bad...)
	wantForms(t, b, false, not(yes), not(no), not(not(3)), not(and), not(or), not(not(equal)))
	for _, n := range bad { // what is not in normal form itself spoils all in which it stands
		wantForms(t, b, false, not(n), add(t, b, api.TermAnd, 3, n), add(t, b, api.TermOr, 3, n), add(t, b, api.TermEqual, 3, n), add(t, b, api.TermIte, 3, 4, n), add(t, b, api.TermIte, 3, n, 4), add(t, b, api.TermIte, n, 3, 4), add(t, b, api.TermAnd, 3, add(t, b, api.TermOr, 4, n)))
	}
}

func TestM1IsOfJunctions(t *testing.T) {
	for _, kind := range []int{api.TermAnd, api.TermOr} {
		b := bank(t)
		other := api.TermAnd + api.TermOr - kind
		yes, no, atom := add(t, b, api.TermTrue), add(t, b, api.TermFalse), read(t, b, "(< x 1)")
		notP, notAtom := add(t, b, api.TermNot, 3), add(t, b, api.TermNot, atom)
		inner, own := add(t, b, other, 3, 4), add(t, b, kind, 3, 4)
		equal := add(t, b, api.TermEqual, 3, 4)
		notEqual, ite := add(t, b, api.TermNot, equal), add(t, b, api.TermIte, 3, 4, 5)
		of := func(kids ...int) int { return add(t, b, kind, kids...) }
		wantForms(t, b, true, own, of(3, 4, 5), of(4, atom), of(4, notP), of(4, notP, notAtom, inner), of(3, inner), of(notP, inner), of(equal, ite), of(notP, notEqual, ite), add(t, b, other, 5, own), of(5, add(t, b, other, 4, of(3, 5))))
		wantForms(t, b, false, of(4, 3), of(3, 3), of(3, 4, 4), of(3, 5, 4), of(3, yes), of(3, no), of(yes, no), of(5, own), of(own, inner), of(3, notP), of(atom, notAtom), of(3, 4, notP, notAtom), of(equal, notEqual), of(5, add(t, b, other, 4, inner)))
	}
}

func TestM1IsOfEqualsAndItes(t *testing.T) {
	b := bank(t)
	yes, no, atom := add(t, b, api.TermTrue), add(t, b, api.TermFalse), read(t, b, "(<= x 1)")
	notP, notQ := add(t, b, api.TermNot, 3), add(t, b, api.TermNot, 4)
	and := add(t, b, api.TermAnd, 3, 4)
	equal := func(x, y int) int { return add(t, b, api.TermEqual, x, y) }
	wantForms(t, b, true, equal(3, 4), equal(4, atom), equal(5, and), equal(3, equal(4, 5)))
	wantForms(t, b, false, equal(4, 3), equal(3, 3), equal(3, yes), equal(3, no), equal(yes, no), equal(4, notP), equal(3, notP), equal(notP, notQ), equal(notP, and), equal(0, 1), equal(0, 0))
	ite := func(x, y, z int) int { return add(t, b, api.TermIte, x, y, z) }
	wantForms(t, b, true, ite(3, 4, 5), ite(5, 4, 3), ite(3, 3, 4), ite(3, 4, 3), ite(3, 4, notQ), ite(3, notP, notQ), ite(and, atom, ite(3, 4, 5)), ite(equal(3, 4), 3, 4))
	wantForms(t, b, false, ite(notP, 4, 5), ite(3, 4, 4), ite(3, notQ, notQ), ite(yes, 3, 4), ite(no, 3, 4), ite(3, yes, 4), ite(3, 4, no), ite(3, no, yes), ite(3, 0, 1), ite(3, 0, 0), ite(3, ite(notP, 4, 5), 4))
}

func TestM1IsErrors(t *testing.T) {
	for _, b := range append(unmade(), terms.New(), bank(t)) {
		for _, n := range []int{-1, b.Len(), math.MaxInt, math.MinInt} {
			is, e := simplify.Is(b, n)
			wantErr(t, "Is", e, api.ErrTerm)
			wantTruth(t, "beside the error", is, false)
		}
	}
}

// Terms that are drawn, held against the chapter's words.
func TestM1IsDrawn(t *testing.T) {
	counts := map[string]int{}
	for seed := range int64(400) {
		w := draw(t, seed, seed%4 > 0)
		r := refOf(w.bank)
		for n := range w.bank.Len() {
			want := r.isNormal(n)
			wantIs(t, w.bank, n, want)
			counts[fmt.Sprint(get(t, w.bank, n).Kind, want)]++
		}
	}
	for kind := api.TermTrue; kind <= api.TermScale; kind++ {
		always := kind == api.TermTrue || kind == api.TermFalse || kind == api.TermName || kind == api.TermNumber
		never := kind == api.TermXor || kind == api.TermImplies || kind == api.TermDistinct
		if !never && counts[fmt.Sprint(kind, true)] < 20 || !always && counts[fmt.Sprint(kind, false)] < 20 {
			t.Errorf("so few of the kind %d: %v", kind, counts)
		}
	}
}

// A form is looked at once, however many atoms it has: these numbers are so long that each look takes a while.
func TestM1IsOfManyAtomsOfOneForm(t *testing.T) {
	b := bank(t)
	long := func(seed uint32) api.Rat {
		limbs := make(api.Nat, 3000)
		for i := range limbs {
			seed = seed*1664525 + 1013904223
			limbs[i] = seed | 1
		}
		return api.Rat{Num: api.Int{Abs: limbs}, Den: api.Nat{1}}
	}
	times := func(n api.Rat, kid int) int {
		return put(t, b, api.Term{Kind: api.TermScale, Number: n, Kids: []int{kid}})
	}
	shape := add(t, b, api.TermAdd, times(long(1), 0), times(long(7), 1))
	other := add(t, b, api.TermAdd, times(long(1), 0), times(long(1), 1)) // no Prime's shape
	var all []int
	for i := range 8000 {
		all = append(all, add(t, b, api.TermLess+i%2, shape, numbered(t, b, fmt.Sprint(i))))
	}
	is, e := simplify.Is(b, add(t, b, api.TermOr, all...))
	wantErr(t, "Is", e, api.OK)
	wantTruth(t, "Is", is, true)
	is, e = simplify.Is(b, add(t, b, api.TermOr, append(all, add(t, b, api.TermLess, other, numbered(t, b, "1")))...))
	wantErr(t, "Is", e, api.OK)
	wantTruth(t, "Is, with another form", is, false)
}
