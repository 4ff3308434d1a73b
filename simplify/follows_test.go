package simplify_test

import (
	"fmt"
	"math/big"
	"testing"

	"fulcrum/api"
	"fulcrum/simplify"
	"fulcrum/terms"
)

// wantSaid: Normal and Negate of a term that is too deep for the chapter's words told plainly.
func wantSaid(t *testing.T, what string, b *terms.Bank, n int, plain, opposite string) {
	t.Helper()
	wantPure(t, b, n, true)
	l, e := simplify.Lift(b, n)
	wantErr(t, "Lift of "+what, e, api.OK)
	wantText(t, "Lift of "+what, tellLifted(l), tellLifted(api.Lifted{Term: n}))
	m, e := simplify.Normal(b, n)
	wantErr(t, "Normal of "+what, e, api.OK)
	wantText(t, "Normal of "+what, print(t, b, m), plain)
	m, e = simplify.Negate(b, n)
	wantErr(t, "Negate of "+what, e, api.OK)
	wantText(t, "Negate of "+what, print(t, b, m), opposite)
	is, e := simplify.Is(b, n)
	wantErr(t, "Is of "+what, e, api.OK)
	wantTruth(t, "Is of "+what, is, false)
}

// Each term has its kid several times over: there are as many ways down as 2 to so many.
func TestEachTermIsGoneOverOnce(t *testing.T) {
	const deep = 100000
	for kind, plain := range map[int]string{
		api.TermNot: "p", api.TermAnd: "p", api.TermOr: "p", api.TermXor: "false", api.TermImplies: "true", api.TermIte: "p", api.TermEqual: "true", api.TermDistinct: "false",
	} {
		b := terms.New()
		p := declare(t, b, "p", api.SortBool)
		last := chain(t, b, p, deep, func(last int) api.Term {
			kids := []int{last, last, last}
			switch kind {
			case api.TermNot:
				kids = kids[:1]
			case api.TermXor, api.TermImplies, api.TermEqual:
				kids = kids[:2]
			}
			return api.Term{Kind: kind, Kids: kids}
		})
		opposite := map[string]string{"p": "(not p)", "true": "false", "false": "true"}[plain]
		wantSaid(t, fmt.Sprint("terms of the kind ", kind), b, last, plain, opposite)
		wantNoAffine(t, b, last, api.ErrSort)
	}
}

// Junctions of one kind in one another, and of both kinds in turn, with a constant more each time.
func TestDeepJunctions(t *testing.T) {
	const deep = 40000
	b := terms.New()
	first := declare(t, b, "p", api.SortBool)
	last := first
	for i := range deep {
		last = add(t, b, api.TermAnd, last, declare(t, b, fmt.Sprint("q", i), api.SortBool))
	}
	m, e := simplify.Normal(b, last)
	wantErr(t, "Normal of ands in ands", e, api.OK)
	wantInt(t, "their kids", len(get(t, b, m).Kids), deep+1)
	is, _ := simplify.Is(b, m)
	wantTruth(t, "Is", is, true)
	m, e = simplify.Negate(b, last)
	wantErr(t, "Negate of ands in ands", e, api.OK)
	wantInt(t, "their kids", len(get(t, b, m).Kids), deep+1)
	wantInt(t, "their kind", get(t, b, m).Kind, api.TermOr)
	b, turn := alternating(t, deep)
	for _, do := range []func(b *terms.Bank, t int) (int, api.Errno){simplify.Normal, simplify.Negate} {
		m, e := do(b, turn)
		wantErr(t, "both kinds in turn", e, api.OK)
		is, _ := simplify.Is(b, m)
		wantTruth(t, "Is", is, true)
		again, e := simplify.Normal(b, m)
		wantErr(t, "Normal again", e, api.OK)
		wantInt(t, "Normal again", again, m)
	}
}

// alternating is ands and ors in one another, so deep.
func alternating(t *testing.T, deep int) (*terms.Bank, int) {
	t.Helper()
	b := terms.New()
	last := declare(t, b, "p", api.SortBool)
	for i := range deep {
		last = add(t, b, api.TermAnd+i%2, declare(t, b, fmt.Sprint("q", i), api.SortBool), last)
	}
	return b, last
}

func TestDeepSums(t *testing.T) {
	const deep = 10000
	b := bank(t)
	double := chain(t, b, read(t, b, "(+ x 1)"), deep, func(last int) api.Term { return api.Term{Kind: api.TermAdd, Kids: []int{last, last}} })
	power := ratOf(new(big.Rat).SetInt(new(big.Int).Lsh(big.NewInt(1), deep)))
	wantAffine(t, b, double, api.Affine{Form: api.Form{{Var: 0, Coef: power}}, Const: power})
	half := chain(t, b, double, deep, func(last int) api.Term {
		return api.Term{Kind: api.TermScale, Number: rat("1/2"), Kids: []int{last}}
	})
	wantAffine(t, b, half, affine("1", 0, "1"))
	wantText(t, "Normal of a comparison", print(t, b, normal(t, b, add(t, b, api.TermLess, half, 1))), "(< (+ x (* (- 1.0) y)) (- 1.0))")
	wantText(t, "Normal of what is the same", print(t, b, normal(t, b, add(t, b, api.TermEqual, half, read(t, b, "(+ x 1)")))), "true")
	thirds := chain(t, b, 2, deep, func(last int) api.Term {
		return api.Term{Kind: api.TermScale, Number: rat("2/3"), Kids: []int{last}}
	})
	f, e := simplify.Affine(b, thirds)
	wantErr(t, "Affine of fractions", e, api.OK)
	power23 := new(big.Rat).SetFrac(new(big.Int).Lsh(big.NewInt(1), deep), new(big.Int).Exp(big.NewInt(3), big.NewInt(deep), nil))
	wantText(t, "Affine of fractions", tellAffine(f), tellAffine(api.Affine{Form: api.Form{{Var: 2, Coef: ratOf(power23)}}, Const: rat("0")}))
}

// As many variables as terms: no term between may have a form of its own.
func TestLongChainsOfVariables(t *testing.T) {
	const many = 1 << 16
	b := terms.New()
	last := declare(t, b, "x", api.SortReal)
	for i := range many {
		x := declare(t, b, fmt.Sprint("x", i), api.SortReal)
		last = add(t, b, api.TermAdd, x, last)
	}
	f, e := simplify.Affine(b, last)
	wantErr(t, "Affine", e, api.OK)
	wantInt(t, "its parts", len(f.Form), many+1)
	n, e := simplify.Real(b, f)
	wantErr(t, "Real", e, api.OK)
	wantInt(t, "its kids", len(get(t, b, n).Kids), many+1)
	wantTruth(t, "Is", func() bool { is, _ := simplify.Is(b, n); return is }(), true)
	m, e := simplify.Normal(b, last)
	wantErr(t, "Normal", e, api.OK)
	wantInt(t, "Normal", m, n)
}

// Far more comparisons than variables, and the other way round, over terms that all of them share: each tells what it tells alone.
func TestManyComparisonsOfSharedTerms(t *testing.T) {
	for _, c := range []struct{ amounts, deep, compared int }{{2, 300, 150}, {120, 240, 3}, {12, 60, 6}, {1, 200, 200}, {30, 40, 31}} {
		b := terms.New()
		var l, sums, all []int
		for i := range c.amounts {
			l = append(l, declare(t, b, fmt.Sprint("x", i), api.SortReal))
		}
		last := numbered(t, b, "1/3")
		for i := range c.deep {
			last = add(t, b, api.TermAdd, scaled(t, b, fmt.Sprint("-1/", i%3+1), last), l[i*i%len(l)], numbered(t, b, fmt.Sprint(i%5)))
			sums = append(sums, last)
		}
		for i := range c.compared {
			all = append(all, add(t, b, []int{api.TermLess, api.TermAtMost, api.TermEqual}[i%3], sums[len(sums)-1-i], sums[i]))
		}
		var together, apart []int
		for i, one := range all {
			f := refOf(b).form(get(t, b, one).Kids[0])
			f.add(refOf(b).form(get(t, b, one).Kids[1]), big.NewRat(-1, 1))
			alone := normal(t, b, one)
			wantTruth(t, "one alone", isCompared(refOf(b), alone, get(t, b, one).Kind, f, map[string]int{}), true)
			q := declare(t, b, fmt.Sprint("q", i), api.SortBool)
			together = append(together, add(t, b, api.TermXor, one, q))
			apart = append(apart, add(t, b, api.TermXor, alone, q))
		}
		m, e := simplify.Normal(b, add(t, b, api.TermAnd, together...))
		wantErr(t, "Normal", e, api.OK)
		wantInt(t, "the comparisons together", m, normal(t, b, add(t, b, api.TermAnd, apart...)))
		wantInt(t, "the kids", len(get(t, b, m).Kids), c.compared)
	}
}

// Numbers that have no bound.
func TestLongNumbers(t *testing.T) {
	b := bank(t)
	long := new(big.Int).Exp(big.NewInt(7), big.NewInt(20000), nil)
	coef := ratOf(new(big.Rat).SetFrac(long, new(big.Int).Exp(big.NewInt(2), big.NewInt(30000), nil)))
	n := add(t, b, api.TermLess, put(t, b, api.Term{Kind: api.TermScale, Number: coef, Kids: []int{0}}), put(t, b, api.Term{Kind: api.TermNumber, Number: coef}))
	wantText(t, "Normal", print(t, b, normal(t, b, n)), "(< x 1.0)")
}
