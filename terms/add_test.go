package terms_test

import (
	"fmt"
	"math"
	"testing"

	"fulcrum/api"
	"fulcrum/ratio"
	"fulcrum/terms"
)

func TestB1New(t *testing.T) {
	b := terms.New()
	wantNumber(t, "Len", b.Len(), 0)
	wantNumber(t, "Names", b.Names(), 0)
	wantNumber(t, "Declared", len(b.Declared()), 0)
	wantErr(t, "Forget", b.Forget(0), api.OK)
	wantErr(t, "Forget", b.Forget(1), api.ErrArg)
	wantRefused(t, b, "x", api.ErrUnknown, "x")
	wantNoTerms(t, b, 0)
	wantNumber(t, "the first term", read(t, b, "true"), 0)
}

// wantNoTerms: Get, Print and Stand of a number that is no term, and what Add says of it as a kid.
func wantNoTerms(t *testing.T, b *terms.Bank, behind int) {
	t.Helper()
	was := dump(b)
	for _, n := range []int{behind, behind + 1, -1, -2, 1 << 18, 1 << 32, math.MaxInt, math.MinInt} {
		got, e := b.Get(n)
		wantErr(t, fmt.Sprint("Get of ", n), e, api.ErrTerm)
		wantText(t, "Get", told(got), told(api.Term{}))
		s, e := b.Print(n)
		wantErr(t, fmt.Sprint("Print of ", n), e, api.ErrTerm)
		wantText(t, "Print", s, "")
		v, e := b.Stand(n)
		wantErr(t, fmt.Sprint("Stand of ", n), e, api.ErrTerm)
		wantNumber(t, "Stand", v, 0)
		v, e = b.Add(api.Term{Kind: api.TermNot, Kids: []int{n}})
		wantErr(t, fmt.Sprint("Add of a kid ", n), e, api.ErrTerm)
		wantNumber(t, "Add", v, 0)
	}
	wantText(t, "the bank", dump(b), was)
}

func TestB1NoSuchTerm(t *testing.T) {
	b := bank(t)
	wantNoTerms(t, b, 4)
	read(t, b, "(+ x 1)")
	wantNoTerms(t, b, 6)
}

func wantAdd(t *testing.T, b *terms.Bank, in api.Term, n int) {
	t.Helper()
	v, e := b.Add(in)
	wantErr(t, fmt.Sprintf("Add of %+v", in), e, api.OK)
	wantNumber(t, fmt.Sprintf("Add of %+v", in), v, n)
}

func wantNotAdded(t *testing.T, b *terms.Bank, in api.Term, err api.Errno) {
	t.Helper()
	was := dump(b)
	v, e := b.Add(in)
	wantErr(t, fmt.Sprintf("Add of %+v", in), e, err)
	wantNumber(t, "Add", v, 0)
	wantText(t, "the bank", dump(b), was)
}

// some are one term of each kind over the constants x 0, y 1, p 2, q 3, which Add puts behind them in this order.
var some = []api.Term{
	truth(api.TermTrue), truth(api.TermFalse), number("-3/2"), truth(api.TermNot, 2), truth(api.TermAnd, 2, 3), truth(api.TermOr, 2, 3), truth(api.TermXor, 2, 3), truth(api.TermImplies, 2, 3),
	truth(api.TermIte, 2, 3, 2), amount(api.TermIte, 2, 0, 1), truth(api.TermEqual, 2, 3), truth(api.TermEqual, 0, 1), truth(api.TermDistinct, 2, 3), truth(api.TermDistinct, 0, 1), truth(api.TermLess, 0, 1),
	truth(api.TermAtMost, 0, 1), amount(api.TermAdd, 0, 1), scale("0", 0),
}

func TestB1AddEachKind(t *testing.T) {
	b := bank(t)
	for i, in := range some {
		wantAdd(t, b, in, 4+i)
		wantTerm(t, b, 4+i, in)
	}
	for i, in := range some {
		wantAdd(t, b, in, 4+i)
	}
	wantNumber(t, "Len", b.Len(), 4+len(some))
	for i, s := range []string{"x", "y", "p", "q"} {
		wantAdd(t, b, name(s, 0), i)
	}
}

// What does not count of a term is zero in the bank, and makes no other term of it.
func TestB1WhatDoesNotCount(t *testing.T) {
	b := bank(t)
	for i, in := range some {
		odd := in
		odd.Sort, odd.Name = 3-in.Sort, "x"
		if in.Kind != api.TermNumber && in.Kind != api.TermScale {
			odd.Number = rat("7/2")
		}
		wantAdd(t, b, odd, 4+i)
		wantTerm(t, b, 4+i, in)
		odd.Sort, odd.Name = -9, "\x00"
		wantAdd(t, b, odd, 4+i)
		wantAdd(t, b, in, 4+i)
	}
	odd := name("p", 99)
	odd.Number = rat("1")
	wantAdd(t, b, odd, 2)
	wantTerm(t, b, 2, name("p", api.SortBool))
}

// Every value of a number's type is read as a number: the same number is the same term.
func TestB1NumbersAreNormal(t *testing.T) {
	b := bank(t)
	for i, kind := range []int{api.TermNumber, api.TermScale} {
		in := api.Term{Kind: kind}
		if kind == api.TermScale {
			in.Kids = []int{0}
		}
		for _, r := range []api.Rat{rat("3/2"), {Num: api.Int{Abs: api.Nat{6}}, Den: api.Nat{4}}, {Num: api.Int{Abs: api.Nat{3, 0, 0}}, Den: api.Nat{2, 0}}} {
			in.Number = r
			wantAdd(t, b, in, 4+2*i)
		}
		for _, r := range []api.Rat{{}, rat("0"), {Num: api.Int{Neg: true}, Den: api.Nat{7}}, {Num: api.Int{Abs: api.Nat{5}}}, {Num: api.Int{Neg: true, Abs: api.Nat{0, 0}}, Den: api.Nat{0}}} {
			in.Number = r
			wantAdd(t, b, in, 5+2*i)
		}
	}
	wantTerm(t, b, 4, number("3/2"))
	wantTerm(t, b, 5, number("0"))
	wantTerm(t, b, 6, scale("3/2", 0))
	wantTerm(t, b, 7, scale("0", 0))
}

// Numbers that differ in a limb, a sign or a part are different terms, and so are kids in another order.
func TestB1OtherTerms(t *testing.T) {
	b := bank(t)
	n := 4
	for _, s := range []string{"1", "-1", "1/2", "2", "-2", "-1/2", "4294967296", "4294967297", "18446744073709551616", "1/4294967296", "4294967296/3", "3/4294967296", "256", "65536"} {
		wantAdd(t, b, number(s), n)
		wantAdd(t, b, scale(s, 0), n+1)
		wantAdd(t, b, scale(s, 1), n+2)
		n += 3
	}
	for bit := range 96 { // numbers that differ in one bit
		two := ratio.Whole(1)
		for range bit {
			two = ratio.Add(two, two)
		}
		odd := ratio.Add(two, rat("1/3"))
		wantAdd(t, b, api.Term{Kind: api.TermNumber, Number: odd}, n)
		odd, _ = ratio.Inv(odd)
		wantAdd(t, b, api.Term{Kind: api.TermNumber, Number: odd}, n+1)
		n += 2
	}
	for _, kids := range [][]int{{2, 3}, {3, 2}, {2, 2}, {2, 3, 2}, {2, 2, 3}, {3, 3}} {
		wantAdd(t, b, truth(api.TermAnd, kids...), n)
		wantAdd(t, b, truth(api.TermOr, kids...), n+1)
		wantAdd(t, b, truth(api.TermDistinct, kids...), n+2)
		n += 3
	}
}

func TestB1AddWrongKinds(t *testing.T) {
	b := bank(t)
	for _, kind := range []int{api.TermNone, -1, api.TermScale + 1, 77, math.MaxInt, math.MinInt} {
		for _, kids := range [][]int{nil, {0}, {99}, {0, 1}} {
			wantNotAdded(t, b, api.Term{Kind: kind, Kids: kids, Name: "x"}, api.ErrSyntax)
		}
	}
}

// Of each kind all numbers of kids up to five are right or ErrArity, ahead of all that is wrong with the kids.
func TestB1AddArity(t *testing.T) {
	right := map[int]string{
		api.TermTrue: "0", api.TermFalse: "0", api.TermName: "0", api.TermNumber: "0", api.TermNot: "1", api.TermAnd: "2345", api.TermOr: "2345", api.TermXor: "2", api.TermImplies: "2", api.TermIte: "3",
		api.TermEqual: "2", api.TermDistinct: "2345", api.TermLess: "2", api.TermAtMost: "2", api.TermAdd: "2345", api.TermScale: "1",
	}
	b := bank(t)
	for kind := api.TermTrue; kind <= api.TermScale; kind++ {
		for count := range 6 {
			mayBe := false
			for _, c := range right[kind] {
				mayBe = mayBe || int(c-'0') == count
			}
			for _, kid := range []int{0, 2, 99, -1} {
				var kids []int
				for range count {
					kids = append(kids, kid)
				}
				_, e := b.Add(api.Term{Kind: kind, Name: "nobody", Kids: kids})
				if (e == api.ErrArity) == mayBe {
					t.Fatalf("Add of kind %d with %d kids %d: %d", kind, count, kid, e)
				}
				if mayBe && count > 0 && (kid == 99 || kid == -1) {
					wantErr(t, "kids that are no term", e, api.ErrTerm)
				}
			}
		}
	}
}

func TestB1AddSorts(t *testing.T) {
	b := bank(t)
	for _, c := range []struct {
		kind int
		kids []int
	}{
		{api.TermNot, []int{0}}, {api.TermAnd, []int{2, 0}}, {api.TermAnd, []int{0, 2}}, {api.TermAnd, []int{2, 3, 1}}, {api.TermOr, []int{2, 0}}, {api.TermOr, []int{0, 0}}, {api.TermXor, []int{0, 2}}, {api.TermXor, []int{2, 0}},
		{api.TermImplies, []int{0, 2}}, {api.TermImplies, []int{2, 0}}, {api.TermIte, []int{0, 0, 1}}, {api.TermIte, []int{0, 2, 3}}, {api.TermIte, []int{2, 0, 3}}, {api.TermIte, []int{2, 3, 0}}, {api.TermEqual, []int{0, 2}}, {api.TermEqual, []int{2, 0}},
		{api.TermDistinct, []int{0, 2}}, {api.TermDistinct, []int{2, 3, 0}}, {api.TermDistinct, []int{0, 1, 2}}, {api.TermLess, []int{2, 3}}, {api.TermLess, []int{0, 2}}, {api.TermLess, []int{2, 0}}, {api.TermAtMost, []int{2, 0}}, {api.TermAtMost, []int{0, 2}},
		{api.TermAdd, []int{0, 2}}, {api.TermAdd, []int{2, 2}}, {api.TermAdd, []int{0, 1, 2}}, {api.TermScale, []int{2}},
	} {
		wantNotAdded(t, b, api.Term{Kind: c.kind, Kids: c.kids}, api.ErrSort)
		for i := range c.kids {
			kids := append([]int{}, c.kids...)
			kids[i] = 4 // ErrTerm comes ahead of ErrSort
			wantNotAdded(t, b, api.Term{Kind: c.kind, Kids: kids}, api.ErrTerm)
		}
	}
}

func TestB1AddNames(t *testing.T) {
	b := bank(t)
	define(t, b, "m", nil, api.SortReal, "x")
	read(t, b, "(! p :named n)")
	s, _ := b.Stand(0)
	for _, text := range []string{"nobody", "", "m", "n", "and", "true", "X", "x ", get(t, b, s).Name} {
		wantNotAdded(t, b, name(text, api.SortReal), api.ErrUnknown)
	}
	wantNotAdded(t, b, api.Term{Kind: api.TermName, Name: "nobody", Kids: []int{99}}, api.ErrArity)
	wantNotAdded(t, b, api.Term{Kind: api.TermName, Name: "x", Kids: []int{0}}, api.ErrArity)
	wantErr(t, "Forget", b.Forget(1), api.OK)
	wantNotAdded(t, b, name("y", api.SortReal), api.ErrUnknown)
	wantAdd(t, b, name("x", 0), 0)
}

// Numbers that a bank has are put together with what it has read.
func TestB1AddAndRead(t *testing.T) {
	b := bank(t)
	n := read(t, b, "(* 1.5 (ite p x (+ y 2)))")
	wantAdd(t, b, get(t, b, n), n)
	wantAdd(t, b, api.Term{Kind: api.TermNumber, Number: ratio.Whole(2)}, read(t, b, "2"))
	v, e := b.Add(truth(api.TermTrue))
	wantErr(t, "Add", e, api.OK)
	wantNumber(t, "true", read(t, b, "true"), v)
	for i := range b.Len() {
		wantAdd(t, b, get(t, b, i), i)
	}
}
