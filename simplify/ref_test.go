package simplify_test

import (
	"math/big"
	"slices"

	"fulcrum/api"
	"fulcrum/terms"
)

// The chapter's words, told plainly, by calls in calls.

// ref is a bank that is looked at.
type ref struct {
	bank *terms.Bank
	is   map[int]bool // whether a term is in normal form, as far as that was asked
}

func refOf(b *terms.Bank) *ref { return &ref{bank: b, is: map[int]bool{}} }

func (r *ref) get(n int) api.Term {
	t, e := r.bank.Get(n)
	if e != api.OK {
		panic("no such term")
	}
	return t
}

// stands are all terms that stand in a term.
func (r *ref) stands(n int) map[int]api.Term {
	out := map[int]api.Term{}
	var look func(n int)
	look = func(n int) {
		if _, ok := out[n]; ok {
			return
		}
		out[n] = r.get(n)
		for _, kid := range out[n].Kids {
			look(kid)
		}
	}
	look(n)
	return out
}

func (r *ref) constants(n int) map[int]api.Term {
	out := map[int]api.Term{}
	for m, t := range r.stands(n) {
		if t.Kind == api.TermName {
			out[m] = t
		}
	}
	return out
}

// ites are the TermItes of Real that stand in a term, by rising numbers.
func (r *ref) ites(n int) []int {
	var out []int
	for m, t := range r.stands(n) {
		if t.Kind == api.TermIte && t.Sort == api.SortReal {
			out = append(out, m)
		}
	}
	slices.Sort(out)
	return out
}

func bigInt(a api.Nat) *big.Int {
	out := new(big.Int)
	for i, limb := range a {
		out.Add(out, new(big.Int).Lsh(big.NewInt(int64(limb)), uint(32*i)))
	}
	return out
}

func bigRat(r api.Rat) *big.Rat {
	num, den := bigInt(r.Num.Abs), bigInt(r.Den)
	if den.Sign() == 0 {
		return new(big.Rat)
	}
	if r.Num.Neg {
		num.Neg(num)
	}
	return new(big.Rat).SetFrac(num, den)
}

// limbs is a whole number's limbs, without a nought at the end.
func limbs(n *big.Int) api.Nat {
	var out api.Nat
	n = new(big.Int).Abs(n)
	for n.Sign() != 0 {
		out = append(out, uint32(new(big.Int).And(n, big.NewInt(0xffffffff)).Uint64()))
		n.Rsh(n, 32)
	}
	return out
}

func ratOf(r *big.Rat) api.Rat {
	return api.Rat{Num: api.Int{Neg: r.Sign() < 0, Abs: limbs(r.Num())}, Den: limbs(r.Denom())}
}

// form is an affine form: the coefficients that are not 0 by their variables, and a constant.
type form struct {
	coefs    map[int]*big.Rat
	constant *big.Rat
}

// form is that of a pure term of Real.
func (r *ref) form(n int) form {
	out := form{coefs: map[int]*big.Rat{}, constant: new(big.Rat)}
	t := r.get(n)
	switch t.Kind {
	case api.TermName:
		out.coefs[n] = big.NewRat(1, 1)
	case api.TermNumber:
		out.constant = bigRat(t.Number)
	case api.TermScale:
		out.add(r.form(t.Kids[0]), bigRat(t.Number))
	case api.TermAdd:
		for _, kid := range t.Kids {
			out.add(r.form(kid), big.NewRat(1, 1))
		}
	default:
		panic("not a pure term of Real")
	}
	return out
}

// add adds another form, so many times.
func (f *form) add(g form, often *big.Rat) {
	for v, c := range g.coefs {
		sum := new(big.Rat).Mul(c, often)
		if was, ok := f.coefs[v]; ok {
			sum.Add(sum, was)
		}
		f.coefs[v] = sum
		if sum.Sign() == 0 {
			delete(f.coefs, v)
		}
	}
	f.constant = new(big.Rat).Add(f.constant, new(big.Rat).Mul(g.constant, often))
}

func (f form) vars() []int {
	var out []int
	for v := range f.coefs {
		out = append(out, v)
	}
	slices.Sort(out)
	return out
}

// told is the form as an answer.
func (f form) told() api.Affine {
	out := api.Affine{Const: ratOf(f.constant)}
	for _, v := range f.vars() {
		out.Form = append(out.Form, api.Mono{Var: v, Coef: ratOf(f.coefs[v])})
	}
	return out
}

// prime is how often a form without its constant has its shape, whose coefficients are whole, have no common divisor, and of which the first is above 0.
func (f form) prime() *big.Rat {
	num, den := new(big.Int), big.NewInt(1)
	for _, c := range f.coefs {
		num.GCD(nil, nil, num, new(big.Int).Abs(c.Num()))
		den.Mul(den, new(big.Int).Quo(c.Denom(), new(big.Int).GCD(nil, nil, den, c.Denom())))
	}
	out := new(big.Rat).SetFrac(num, den)
	if f.coefs[f.vars()[0]].Sign() < 0 {
		out.Neg(out)
	}
	return out
}

// isTermOf tells whether a term is the term of that form.
func (r *ref) isTermOf(n int, f form) bool {
	var want []api.Term
	for _, v := range f.vars() {
		name := r.get(v)
		if f.coefs[v].Cmp(big.NewRat(1, 1)) != 0 {
			name = api.Term{Kind: api.TermScale, Sort: api.SortReal, Number: ratOf(f.coefs[v]), Kids: []int{v}}
		}
		want = append(want, name)
	}
	if len(want) == 0 || f.constant.Sign() != 0 {
		want = append(want, api.Term{Kind: api.TermNumber, Sort: api.SortReal, Number: ratOf(f.constant)})
	}
	if len(want) == 1 {
		return sameTerm(r.get(n), want[0])
	}
	t := r.get(n)
	return t.Kind == api.TermAdd && slices.EqualFunc(t.Kids, want, func(kid int, w api.Term) bool { return sameTerm(r.get(kid), w) })
}

func sameTerm(a, b api.Term) bool {
	return a.Kind == b.Kind && a.Sort == b.Sort && a.Name == b.Name && tellRat(a.Number) == tellRat(b.Number) && slices.Equal(a.Kids, b.Kids)
}

// isNormal tells whether a term is in normal form.
func (r *ref) isNormal(n int) bool {
	if is, ok := r.is[n]; ok {
		return is
	}
	is := len(r.ites(n)) == 0 && r.hasNormalForm(n)
	r.is[n] = is
	return is
}

func (r *ref) hasNormalForm(n int) bool {
	t := r.get(n)
	if t.Sort == api.SortReal {
		return r.isTermOf(n, r.form(n))
	}
	switch t.Kind {
	case api.TermTrue, api.TermFalse, api.TermName:
		return true
	case api.TermLess, api.TermAtMost:
		return r.isAtom(t)
	case api.TermNot:
		kid := r.get(t.Kids[0])
		switch kind := kid.Kind; kind {
		case api.TermName, api.TermLess, api.TermAtMost, api.TermEqual, api.TermIte:
			return r.isNormal(t.Kids[0])
		}
		return false
	case api.TermAnd, api.TermOr:
		return r.areRising(t.Kids) && r.noneIs(t.Kids, api.TermTrue, api.TermFalse, t.Kind) && !r.hasOpposites(t.Kids)
	case api.TermEqual:
		return r.get(t.Kids[0]).Sort == api.SortBool && r.areRising(t.Kids) && r.noneIs(t.Kids, api.TermTrue, api.TermFalse, api.TermNot)
	case api.TermIte:
		return r.areNormal(t.Kids) && r.noneIs(t.Kids, api.TermTrue, api.TermFalse) && r.noneIs(t.Kids[:1], api.TermNot) && t.Kids[1] != t.Kids[2]
	}
	return false
}

func (r *ref) isAtom(t api.Term) bool {
	if len(r.ites(t.Kids[0])) > 0 || r.get(t.Kids[1]).Kind != api.TermNumber {
		return false
	}
	f := r.form(t.Kids[0])
	return r.isTermOf(t.Kids[0], f) && len(f.coefs) > 0 && f.constant.Sign() == 0 && f.prime().Cmp(big.NewRat(1, 1)) == 0
}

func (r *ref) areNormal(l []int) bool {
	for _, n := range l {
		if !r.isNormal(n) {
			return false
		}
	}
	return true
}

func (r *ref) areRising(l []int) bool {
	for i := 1; i < len(l); i++ {
		if l[i] <= l[i-1] {
			return false
		}
	}
	return r.areNormal(l)
}

func (r *ref) noneIs(l []int, kinds ...int) bool {
	for _, n := range l {
		if slices.Contains(kinds, r.get(n).Kind) {
			return false
		}
	}
	return true
}

func (r *ref) hasOpposites(l []int) bool {
	for _, n := range l {
		if t := r.get(n); t.Kind == api.TermNot && slices.Contains(l, t.Kids[0]) {
			return true
		}
	}
	return false
}

// weight is what chapter 27 calls so, of one term.
func (r *ref) weight(n int) int {
	limbs, amounts, compared := 0, 0, 0
	all := r.stands(n)
	for _, t := range all {
		limbs += len(t.Number.Num.Abs) + len(t.Number.Den)
		if (t.Kind == api.TermName || t.Kind == api.TermIte) && t.Sort == api.SortReal {
			amounts++
		}
		switch ofReal := len(t.Kids) > 0 && all[t.Kids[0]].Sort == api.SortReal; {
		case t.Kind == api.TermLess, t.Kind == api.TermAtMost:
			compared++
		case t.Kind == api.TermEqual && ofReal:
			compared += 2
		case t.Kind == api.TermDistinct && ofReal:
			compared += len(t.Kids) * (len(t.Kids) - 1)
		}
	}
	return len(all) + limbs + compared*(amounts+4)
}
