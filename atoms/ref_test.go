package atoms_test

import (
	"maps"
	"math"
	"math/big"
	"math/rand"
	"slices"

	"fulcrum/api"
)

// line is an affine form, worked out by math/big alone: the coefficients that are not 0, by their variables, and the constant.
type line struct {
	coefs map[int]*big.Rat
	shift *big.Rat
}

func lineOf(f api.Affine) line {
	out := line{map[int]*big.Rat{}, ratIn(f.Const)}
	for _, part := range f.Form {
		c := ratIn(part.Coef)
		if was, ok := out.coefs[part.Var]; ok {
			c.Add(c, was)
		}
		out.coefs[part.Var] = c
	}
	maps.DeleteFunc(out.coefs, func(v int, c *big.Rat) bool { return c.Sign() == 0 })
	return out
}

// at is its value; a variable that has no place in vals is 0.
func (p line) at(vals []api.Rat) *big.Rat {
	out := new(big.Rat).Set(p.shift)
	for v, c := range p.coefs {
		if v >= 0 && v < len(vals) {
			out.Add(out, new(big.Rat).Mul(c, ratIn(vals[v])))
		}
	}
	return out
}

// isBelow tells whether a line is at most 0, or (strict) below it.
func (p line) isBelow(vals []api.Rat, strict bool) bool {
	sign := p.at(vals).Sign()
	return sign < 0 || sign == 0 && !strict
}

// shapeOf is coprime whole coefficients, the first one above 0, and how often they are taken; nothing and 1 of no coefficients.
func shapeOf(coefs map[int]*big.Rat) (api.Form, *big.Rat) {
	vars := slices.Sorted(maps.Keys(coefs))
	if len(vars) == 0 {
		return nil, big.NewRat(1, 1)
	}
	dens, nums := big.NewInt(1), new(big.Int)
	for _, v := range vars {
		den := coefs[v].Denom()
		dens.Mul(dens, new(big.Int).Quo(den, new(big.Int).GCD(nil, nil, dens, den)))
	}
	for _, v := range vars {
		whole := new(big.Rat).Mul(coefs[v], new(big.Rat).SetInt(dens))
		nums.GCD(nil, nil, nums, new(big.Int).Abs(whole.Num()))
	}
	times := new(big.Rat).SetFrac(nums, dens)
	if coefs[vars[0]].Sign() < 0 {
		times.Neg(times)
	}
	var out api.Form
	for _, v := range vars {
		out = append(out, api.Mono{Var: v, Coef: of(new(big.Rat).Quo(coefs[v], times))})
	}
	return out, times
}

// belowOf is A3's words: the literal of an affine form, and the table with it.
func belowOf(l []api.Atom, f api.Affine, strict bool) ([]api.Atom, int) {
	p := lineOf(f)
	if len(p.coefs) == 0 {
		if p.isBelow(nil, strict) {
			return l, 1
		}
		return l, -1
	}
	shape, times := shapeOf(p.coefs)
	at := new(big.Rat).Quo(p.shift, times)
	a := api.Atom{Form: shape, Bound: of(at.Neg(at)), Strict: strict}
	sign := times.Sign()
	if sign < 0 {
		a.Strict = !strict
	}
	for i, b := range l {
		if toldAtom(a) == toldAtom(b) {
			return l, sign * (i + 1)
		}
	}
	return append(slices.Clip(l), a), sign * (len(l) + 1)
}

// truth is whether a literal is true, by what its atom says.
func truth(l []api.Atom, lit int, vals []api.Rat, names []api.Binding) bool {
	a, denied := l[max(lit, -lit)-1], lit < 0
	if a.Name != "" {
		i := slices.IndexFunc(names, func(b api.Binding) bool { return b.Name == a.Name })
		return names[i].Value.Bool != denied
	}
	p := lineOf(api.Affine{Form: a.Form})
	p.shift = new(big.Rat).Neg(ratIn(a.Bound))
	return p.isBelow(vals, a.Strict) != denied
}

// edges has numbers of both signs, some not in lowest terms, some with noughts at the end of lists, and all manner of ways to write 0.
func edges() []api.Rat {
	out := []api.Rat{
		{}, raw(false, api.Nat{5}, nil), raw(true, api.Nat{5}, api.Nat{0, 0}), raw(false, nil, api.Nat{1}), raw(true, nil, api.Nat{3}), raw(true, api.Nat{0, 0}, api.Nat{4, 0}), raw(true, api.Nat{full, full}, nil),
	}
	for _, c := range [][2]api.Nat{
		{{1}, {1}}, {{1, 0}, {1, 0, 0}}, {{1}, {2}}, {{2, 0}, {4, 0}}, {{7}, {2}}, {{10}, {5}}, {{1}, {full}}, {{0, 0, 1}, {0, 1}}, {{full, full, 0}, {1, 1}}, {{1, 2, 3}, {3, 2, 1}}, {{0, 0, 6}, {0, 0, 4}},
	} {
		out = append(out, raw(false, c[0], c[1]), raw(true, c[0], c[1]))
	}
	return out
}

func smallRat(r *rand.Rand) api.Rat {
	return of(big.NewRat(r.Int63n(9)-4, 1+r.Int63n(3)))
}

func someRat(r *rand.Rand) api.Rat {
	if r.Intn(2) == 0 {
		return smallRat(r)
	}
	return edges()[r.Intn(len(edges()))]
}

// aboveNought is a number above 0.
func aboveNought(r *rand.Rand) api.Rat {
	for {
		if c := someRat(r); ratIn(c).Sign() > 0 {
			return c
		}
	}
}

// someVar is one of few, so that some stand in several parts of a form.
func someVar(r *rand.Rand) int {
	return []int{0, 1, 2, 3, -1, -2, math.MinInt, math.MaxInt}[r.Intn(8)]
}

// someForm has its parts in any order, one variable in several parts, some that cancel one another.
func someForm(r *rand.Rand) api.Form {
	var out api.Form
	for range r.Intn(6) {
		out = append(out, api.Mono{Var: someVar(r), Coef: someRat(r)})
		if r.Intn(4) == 0 {
			was := out[r.Intn(len(out))]
			out = append(out, api.Mono{Var: was.Var, Coef: turned(was.Coef)})
		}
	}
	return out
}

func someAffine(r *rand.Rand) api.Affine {
	return api.Affine{Form: someForm(r), Const: someRat(r)}
}

// smallAffine has few coefficients, so that some are multiples of one another.
func smallAffine(r *rand.Rand) api.Affine {
	out := api.Affine{Const: of(big.NewRat(r.Int63n(5)-2, 1))}
	for v := range r.Intn(3) {
		out.Form = append(out.Form, api.Mono{Var: v, Coef: of(big.NewRat(r.Int63n(5)-2, 1))})
	}
	return out
}

func turned(c api.Rat) api.Rat {
	return raw(!c.Num.Neg, c.Num.Abs, c.Den)
}

// times is an affine form, so many times, its parts the other way round.
func times(c api.Rat, f api.Affine) api.Affine {
	product := func(d api.Rat) api.Rat { return of(new(big.Rat).Mul(ratIn(c), ratIn(d))) }
	out := api.Affine{Const: product(f.Const)}
	for i := len(f.Form) - 1; i >= 0; i-- {
		out.Form = append(out.Form, api.Mono{Var: f.Form[i].Var, Coef: product(f.Form[i].Coef)})
	}
	return out
}

// smallAtom is an atom that may be, one of few.
func smallAtom(r *rand.Rand) api.Atom {
	if r.Intn(3) == 0 {
		return named([]string{"p", "q", "r", "\x00"}[r.Intn(4)])
	}
	for {
		l, _ := belowOf(table(), smallAffine(r), r.Intn(2) == 0)
		if len(l) > 1 {
			return l[1]
		}
	}
}

// someTable may be, and has atoms of all kinds.
func someTable(r *rand.Rand) []api.Atom {
	out := table()
	for range r.Intn(9) {
		a := smallAtom(r)
		if r.Intn(4) == 0 {
			if l, _ := belowOf(table(), someAffine(r), r.Intn(2) == 0); len(l) > 1 {
				a = l[1]
			}
		}
		if !slices.ContainsFunc(out, func(b api.Atom) bool { return toldAtom(a) == toldAtom(b) }) {
			out = append(out, a)
		}
	}
	return out
}

func someVals(r *rand.Rand) []api.Rat {
	var out []api.Rat
	for range r.Intn(5) {
		out = append(out, someRat(r))
	}
	return out
}

// allTruths gives all names of a table a truth; the same names, with another one, stand behind them.
func allTruths(r *rand.Rand, l []api.Atom) []api.Binding {
	var out, behind []api.Binding
	for _, a := range l {
		if a.Name == "" {
			continue
		}
		is := r.Intn(2) == 0
		out = append(out, api.Binding{Name: a.Name, Value: api.Value{Sort: api.SortBool, Bool: is}})
		behind = append(behind, api.Binding{Name: a.Name, Value: api.Value{Sort: 1 + r.Intn(2), Bool: !is}})
	}
	return append(out, behind...)
}

// literals are all literals of a table.
func literals(l []api.Atom) []int {
	var out []int
	for i := range l {
		out = append(out, i+1, -i-1)
	}
	return out
}
