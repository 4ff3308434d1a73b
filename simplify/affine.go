package simplify

import (
	"slices"

	"fulcrum/api"
	"fulcrum/linear"
	"fulcrum/ratio"
)

// affine goes from a pure term of Real down: each term is handed how often it counts by all whose kid it is, and hands that on. So no term between needs a form of its own.
func (p parts) affine(t int) api.Affine {
	counts := map[int][]product{t: {nil}}
	var form api.Form
	var constants []api.Rat
	for _, t := range p.under(t) {
		l := counts[t]
		delete(counts, t)
		switch x := p[t].(type) {
		case constant:
			form = append(form, api.Mono{Var: t, Coef: totalOf(l)})
		case number:
			constants = append(constants, ratio.Mul(totalOf(l), x.value))
		case scale:
			counts[x.family[0]] = append(counts[x.family[0]], append(oneOf(l), x.times))
		case sum:
			often := totalOf(l)
			for _, kid := range x.family {
				counts[kid] = append(counts[kid], product{often})
			}
		}
	}
	return api.Affine{Form: linear.Norm(form), Const: ratio.Norm(total(constants))}
}

// product is numbers that are to be multiplied: a scale upon scales does so only at their end.
type product []api.Rat

// oneOf is the sum of products as one.
func oneOf(l []product) product {
	if len(l) == 1 {
		return l[0]
	}
	return product{totalOf(l)}
}

func totalOf(l []product) api.Rat {
	var out []api.Rat
	for _, p := range l {
		out = append(out, byHalves(p, ratio.Whole(1), ratio.Mul))
	}
	return total(out)
}

func total(l []api.Rat) api.Rat {
	return byHalves(l, ratio.Whole(0), ratio.Add)
}

// byHalves puts halves together, so that long numbers are made as seldom as may be.
func byHalves(l []api.Rat, none api.Rat, together func(a, b api.Rat) api.Rat) api.Rat {
	switch len(l) {
	case 0:
		return none
	case 1:
		return l[0]
	}
	half := len(l) / 2
	return together(byHalves(l[:half], none, together), byHalves(l[half:], none, together))
}

// affines are those of several terms. One way goes over the terms once for each that is asked for, the other one once for each variable: where there is no end of comparisons there are few variables.
func (p parts) affines(asked []int) map[int]api.Affine {
	amounts := p.amounts()
	if len(asked) > len(amounts)+1 {
		return p.affinesByVars(asked, amounts)
	}
	out := map[int]api.Affine{}
	for _, t := range asked {
		out[t] = p.affine(t)
	}
	return out
}

// amounts are the constants of Real, by rising numbers.
func (p parts) amounts() []int {
	var out []int
	for t, x := range p {
		if c, ok := x.(constant); ok && c.real {
			out = append(out, t)
		}
	}
	slices.Sort(out)
	return out
}

func (p parts) affinesByVars(asked, amounts []int) map[int]api.Affine {
	out := map[int]api.Affine{}
	rising := p.reals()
	constants := p.shares(rising, nobody)
	for _, t := range asked {
		out[t] = api.Affine{Const: ratio.Norm(constants[t])}
	}
	for _, v := range amounts {
		shares := p.shares(rising, v)
		for _, t := range asked {
			if coef, ok := shares[t]; ok {
				f := out[t]
				f.Form = append(f.Form, api.Mono{Var: v, Coef: coef})
				out[t] = f
			}
		}
	}
	return out
}

// reals are the terms of Real, by rising numbers.
func (p parts) reals() []int {
	return slices.DeleteFunc(p.rising(), func(t int) bool { return !isReal(p[t]) })
}

// shares are the coefficients that a variable has in the terms of Real, as far as they are not 0; of nobody their constants.
func (p parts) shares(rising []int, v int) map[int]api.Rat {
	out := map[int]api.Rat{}
	for _, t := range rising {
		if share := p.share(t, v, out); ratio.Sign(share) != 0 {
			out[t] = share
		}
	}
	return out
}

// share is that of one term, whose kids' shares are known.
func (p parts) share(t, v int, known map[int]api.Rat) api.Rat {
	switch x := p[t].(type) {
	case constant:
		if t == v {
			return ratio.Whole(1)
		}
	case number:
		if v == nobody {
			return x.value
		}
	case scale:
		if often, ok := known[x.family[0]]; ok {
			return ratio.Mul(x.times, often)
		}
	case sum:
		var l []api.Rat
		for _, kid := range x.family {
			if often, ok := known[kid]; ok {
				l = append(l, often)
			}
		}
		return total(l)
	}
	return api.Rat{}
}
