package simplify_test

import (
	"fmt"
	"testing"

	"fulcrum/api"
	"fulcrum/ratio"
	"fulcrum/simplify"
	"fulcrum/terms"
)

// fill puts numbers into a bank till it has so many terms.
func fill(t *testing.T, b *terms.Bank, count int) {
	t.Helper()
	for i := int64(1 << 40); b.Len() < count; i++ {
		put(t, b, api.Term{Kind: api.TermNumber, Number: ratio.Whole(i)})
	}
	wantInt(t, "the bank's terms", b.Len(), count)
}

// Real needs room for the terms that are missing, and for no other.
func TestM1RealAndRoom(t *testing.T) {
	f := affine("7", 0, "2", 1, "1", 2, "-3") // two scales, a number and the sum
	for _, room := range []int{0, 3, 4, 5} {
		b := bank(t)
		fill(t, b, api.MaxTerms-room)
		if room < 4 {
			wantNoReal(t, b, f, api.ErrFull)
			continue
		}
		wantReal(t, b, f, "(+ (* 2.0 x) y (* (- 3.0) z) 7.0)")
		wantInt(t, "the room that is left", api.MaxTerms-b.Len(), room-4)
	}
	b := bank(t)
	n := wantReal(t, b, f, "(+ (* 2.0 x) y (* (- 3.0) z) 7.0)")
	fill(t, b, api.MaxTerms)
	wantInt(t, "what is there in a full bank", wantReal(t, b, f, "(+ (* 2.0 x) y (* (- 3.0) z) 7.0)"), n)
	wantReal(t, b, affine("0", 2, "-3"), "(* (- 3.0) z)")
	wantReal(t, b, affine("0", 1, "1"), "y")
	wantReal(t, b, affine("7"), "7.0")
	wantNoReal(t, b, affine("8"), api.ErrFull)
	wantNoReal(t, b, affine("7", 0, "2"), api.ErrFull)
	wantNoReal(t, b, affine("8", 3, "1"), api.ErrVar) // ahead of ErrFull
}

// In a bank without room what is there is told, and what is missing is refused.
func TestFullBank(t *testing.T) {
	b := bank(t)
	atom, ite := read(t, b, "(and p (< x 1))"), read(t, b, "(< (ite p x y) 1)")
	missing, impure := read(t, b, "(< (+ x x) y)"), read(t, b, "(not (< (ite p x y) 1))")
	lifted := lift(t, b, ite)
	fill(t, b, api.MaxTerms)
	wantInt(t, "Normal of what is normal", normal(t, b, atom), atom)
	wantNotNormal(t, b, missing, api.ErrFull)
	wantNotNegated(t, b, missing, api.ErrFull)
	wantNotNegated(t, b, atom, api.ErrFull)
	again, e := simplify.Lift(b, ite)
	wantErr(t, "Lift of what was lifted", e, api.OK)
	wantText(t, "Lift of what was lifted", tellLifted(again), tellLifted(lifted))
	wantNotLifted(t, b, impure, api.ErrFull)
	wantNotNormal(t, b, impure, api.ErrPure) // ahead of ErrFull
	wantNotNegated(t, b, impure, api.ErrPure)
	wantNotNegated(t, b, 0, api.ErrSort)
	wantNotLifted(t, b, 0, api.ErrSort)
	wantNotNormal(t, b, api.MaxTerms, api.ErrTerm)
	wantAffine(t, b, read(t, b, "x"), affine("0", 0, "1"))
	wantIs(t, b, atom, true)
	wantPure(t, b, ite, false)
}

// heavy makes terms that weigh as much as they may, each in another way.
var heavy = map[string]func(t *testing.T, b *terms.Bank) int{
	"ands in ands": func(t *testing.T, b *terms.Bank) int {
		last := declare(t, b, "p", api.SortBool)
		for i := range 8191 {
			last = add(t, b, api.TermAnd, last, declare(t, b, fmt.Sprint("q", i), api.SortBool))
		}
		return last
	},
	"both kinds in turn": func(t *testing.T, b *terms.Bank) int {
		last := declare(t, b, "p", api.SortBool)
		for i := range 8191 {
			last = add(t, b, api.TermAnd+i%2, last, declare(t, b, fmt.Sprint("q", i), api.SortBool))
		}
		return last
	},
	"implications": func(t *testing.T, b *terms.Bank) int {
		last := declare(t, b, "p", api.SortBool)
		for i := range 8191 {
			last = add(t, b, api.TermImplies, last, declare(t, b, fmt.Sprint("q", i), api.SortBool))
		}
		return last
	},
	"ands that are asked for one by one": func(t *testing.T, b *terms.Bank) int {
		last := declare(t, b, "p", api.SortBool)
		var all []int
		for i := range 4095 {
			last = add(t, b, api.TermAnd, last, declare(t, b, fmt.Sprint("q", i), api.SortBool))
			all = append(all, add(t, b, api.TermXor, last, declare(t, b, fmt.Sprint("r", i), api.SortBool)))
		}
		return add(t, b, api.TermOr, all...)
	},
	"ands of as many kids as there are of them": func(t *testing.T, b *terms.Bank) int { // kids weigh nothing
		var l, all []int
		for i := range 3000 {
			l = append(l, declare(t, b, fmt.Sprint("q", i), api.SortBool))
		}
		last := l[0]
		for range l {
			last = add(t, b, api.TermAnd, append([]int{last}, l...)...)
			all = append(all, add(t, b, api.TermXor, last, l[0]))
		}
		return add(t, b, api.TermOr, all...)
	},
	"ites of Bool": func(t *testing.T, b *terms.Bank) int {
		p := declare(t, b, "p", api.SortBool)
		last := p
		for i := range 8191 {
			last = add(t, b, api.TermIte, last, declare(t, b, fmt.Sprint("q", i), api.SortBool), p)
		}
		return last
	},
	"ites of Real": func(t *testing.T, b *terms.Bank) int {
		x, last := declare(t, b, "x", api.SortReal), declare(t, b, "y", api.SortReal)
		for i := range 4000 {
			last = add(t, b, api.TermIte, declare(t, b, fmt.Sprint("q", i), api.SortBool), last, x)
		}
		return add(t, b, api.TermLess, last, x)
	},
	"ites of Real in their conditions": func(t *testing.T, b *terms.Bank) int {
		x, last := declare(t, b, "x", api.SortReal), declare(t, b, "p", api.SortBool)
		for i := range 70 {
			ite := add(t, b, api.TermIte, last, x, declare(t, b, fmt.Sprint("y", i), api.SortReal))
			last = add(t, b, api.TermLess, ite, x)
		}
		return last
	},
	"comparisons of few": func(t *testing.T, b *terms.Bank) int {
		last := declare(t, b, "x", api.SortReal)
		var all []int
		for range 2000 {
			next := add(t, b, api.TermAdd, last, last)
			all = append(all, add(t, b, api.TermLess, last, next))
			last = next
		}
		return add(t, b, api.TermOr, all...)
	},
	"comparisons of many": func(t *testing.T, b *terms.Bank) int {
		n, m := declare(t, b, "x", api.SortReal), declare(t, b, "y", api.SortReal)
		for i := range 1700 {
			x, y := declare(t, b, fmt.Sprint("x", i), api.SortReal), declare(t, b, fmt.Sprint("y", i), api.SortReal)
			n, m = add(t, b, api.TermAdd, n, m, x), add(t, b, api.TermAdd, n, m, m, y)
		}
		return add(t, b, api.TermEqual, n, m)
	},
	"equals of all": func(t *testing.T, b *terms.Bank) int {
		var l, all []int
		for i := range 90 {
			l = append(l, declare(t, b, fmt.Sprint("x", i), api.SortReal))
		}
		for i := range 80 {
			sum := add(t, b, api.TermAdd, append([]int{numbered(t, b, fmt.Sprint(i))}, l...)...)
			all = append(all, add(t, b, api.TermEqual, scaled(t, b, fmt.Sprint(i+2), l[i]), sum))
		}
		return add(t, b, api.TermDistinct, add(t, b, api.TermAnd, all...), add(t, b, api.TermOr, all...))
	},
	"a distinct": func(t *testing.T, b *terms.Bank) int {
		var l []int
		for i := range 24 {
			l = append(l, scaled(t, b, fmt.Sprint(i+2), declare(t, b, fmt.Sprint("x", i), api.SortReal)))
		}
		return add(t, b, api.TermDistinct, l...)
	},
	"a long number": func(t *testing.T, b *terms.Bank) int {
		long := make(api.Nat, 16000)
		long[len(long)-1] = 1
		x := declare(t, b, "x", api.SortReal)
		return add(t, b, api.TermLess, put(t, b, api.Term{Kind: api.TermScale, Number: api.Rat{Num: api.Int{Abs: long}, Den: api.Nat{3}}, Kids: []int{x}}), numbered(t, b, "1/5"))
	},
}

// No term that weighs at most MaxWeight is refused in a bank of at most 2^16 terms.
func TestFullNowhereElse(t *testing.T) {
	for name, make := range heavy {
		t.Run(name, func(t *testing.T) {
			b := terms.New()
			n := make(t, b)
			if weight := refOf(b).weight(n); weight > api.MaxWeight || weight < api.MaxWeight/2 {
				t.Fatal("its weight", weight)
			}
			fill(t, b, 1<<16)
			l, e := simplify.Lift(b, n)
			wantErr(t, "Lift", e, api.OK)
			wantPure(t, b, l.Term, true)
			if len(l.Stands) > 0 {
				return
			}
			full := terms.New()
			n = make(t, full)
			fill(t, full, 1<<16)
			m, e := simplify.Normal(full, n)
			wantErr(t, "Normal", e, api.OK)
			is, _ := simplify.Is(full, m)
			wantTruth(t, "Is of Normal", is, true)
			m, e = simplify.Negate(b, n)
			wantErr(t, "Negate", e, api.OK)
			is, _ = simplify.Is(b, m)
			wantTruth(t, "Is of Negate", is, true)
		})
	}
}

// What weighs far more ends soon all the same, with an answer that is right or with ErrFull.
func TestFarTooHeavy(t *testing.T) {
	for name, make := range map[string]func(t *testing.T, b *terms.Bank) int{
		"a distinct": func(t *testing.T, b *terms.Bank) int {
			var l []int
			x := declare(t, b, "x", api.SortReal)
			for i := range 100000 {
				l = append(l, add(t, b, api.TermAdd, x, numbered(t, b, fmt.Sprint(i))))
			}
			return add(t, b, api.TermDistinct, l...)
		},
		"comparisons of sums": func(t *testing.T, b *terms.Bank) int {
			x := declare(t, b, "x", api.SortReal)
			var all []int
			n, m := x, x
			for i := range 20000 {
				n = add(t, b, api.TermAdd, n, declare(t, b, fmt.Sprint("x", i), api.SortReal))
				m = add(t, b, api.TermAdd, n, m)
				all = append(all, add(t, b, api.TermLess, n, m))
			}
			return add(t, b, api.TermAnd, all...)
		},
		"ands that are asked for one by one": func(t *testing.T, b *terms.Bank) int {
			last := declare(t, b, "p", api.SortBool)
			var all []int
			for i := range 60000 {
				last = add(t, b, api.TermAnd, last, declare(t, b, fmt.Sprint("q", i), api.SortBool))
				all = append(all, add(t, b, api.TermXor, last, 0))
			}
			return add(t, b, api.TermOr, all...)
		},
		"long numbers": func(t *testing.T, b *terms.Bank) int {
			n, m := declare(t, b, "x", api.SortReal), declare(t, b, "y", api.SortReal)
			for i := range 22000 {
				x := declare(t, b, fmt.Sprint("x", i), api.SortReal)
				n, m = add(t, b, api.TermAdd, n, m, x), add(t, b, api.TermAdd, n, m, m)
			}
			return add(t, b, api.TermLess, n, m)
		},
	} {
		t.Run(name, func(t *testing.T) {
			b := terms.New()
			n := make(t, b)
			m, e := simplify.Negate(b, n)
			if e == api.OK {
				is, _ := simplify.Is(b, m)
				wantTruth(t, "Is", is, true)
				return
			}
			wantErr(t, "too heavy", e, api.ErrFull)
			wantInt(t, "beside the error", m, 0)
		})
	}
}
