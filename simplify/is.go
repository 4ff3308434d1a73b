package simplify

import (
	"fulcrum/api"
	"fulcrum/linear"
	"fulcrum/ratio"
)

// isNormal tells whether a term is in normal form; the parts are all that stands in it.
func (p parts) isNormal(t int) bool {
	if isReal(p[t]) {
		_, ok := p.formOf(t)
		return ok
	}
	for _, x := range p {
		if !isReal(x) && !p.fits(x) { // what is of Real is looked at where it is compared
			return false
		}
	}
	return p.areShapes(p.compared())
}

// compared are the first kids of the comparisons, each once: many may share one whose shape takes long to look at.
func (p parts) compared() map[int]struct{} {
	out := map[int]struct{}{}
	for _, t := range p {
		if x, ok := t.(comparison); ok {
			out[x.family[0]] = struct{}{}
		}
	}
	return out
}

// areShapes tells whether terms of Real are those of forms as they stand first in atoms.
func (p parts) areShapes(l map[int]struct{}) bool {
	for t := range l {
		f, ok := p.formOf(t)
		if !ok || len(f.Form) == 0 || ratio.Sign(f.Const) != 0 {
			return false
		}
		if _, often := linear.Prime(f.Form); !isOne(often) {
			return false
		}
	}
	return true
}

// fits tells whether a term of Bool is in normal form, if those of its kids are that are of Bool, and what it compares is a shape.
func (p parts) fits(t term) bool {
	switch x := t.(type) {
	case truth, constant:
		return true
	case comparison:
		_, at := p[x.family[1]].(number)
		return at
	case negation:
		return p.mayBeNegated(x.family[0])
	case connective:
		return p.mayBeJoined(x)
	case equality:
		return !p.comparesReals(x) && isRising(x.family) && p.areOpen(x.family) && !p.isNegation(x.family[0]) && !p.isNegation(x.family[1])
	case choice:
		return p.areOpen(x.family) && !p.isNegation(x.family[0]) && x.family[1] != x.family[2]
	}
	return false
}

func (p parts) mayBeNegated(t int) bool {
	switch p[t].(type) {
	case constant, comparison, equality, choice:
		return true
	}
	return false
}

func (p parts) mayBeJoined(x connective) bool {
	if !isRising(x.family) || !p.areOpen(x.family) {
		return false
	}
	kids := map[int]struct{}{}
	for _, kid := range x.family {
		kids[kid] = struct{}{}
	}
	for _, kid := range x.family {
		switch y := p[kid].(type) {
		case connective:
			if y.or == x.or {
				return false
			}
		case negation:
			if _, ok := kids[y.family[0]]; ok {
				return false
			}
		}
	}
	return true
}

func (p parts) isNegation(t int) bool {
	_, ok := p[t].(negation)
	return ok
}

// areOpen tells whether none of some terms is TermTrue or TermFalse.
func (p parts) areOpen(l []int) bool {
	for _, t := range l {
		if _, ok := p[t].(truth); ok {
			return false
		}
	}
	return true
}

func isRising(l []int) bool {
	for i := 1; i < len(l); i++ {
		if l[i-1] >= l[i] {
			return false
		}
	}
	return true
}

// formOf is the affine form of which a term is the term, if there is one.
func (p parts) formOf(t int) (api.Affine, bool) {
	kids := []int{t}
	s, several := p[t].(sum)
	if several {
		kids = s.family
	}
	var out api.Affine
	for i, kid := range kids {
		if n, ok := p[kid].(number); ok {
			out.Const = n.value
			return out, !several || i == len(kids)-1 && ratio.Sign(n.value) != 0 // nothing stands behind the constant
		}
		part, ok := p.monoOf(kid)
		if !ok || i > 0 && out.Form[i-1].Var >= part.Var {
			return api.Affine{}, false
		}
		out.Form = append(out.Form, part)
	}
	return out, true
}

// monoOf is the part of a form that a term is, if it is one.
func (p parts) monoOf(t int) (api.Mono, bool) {
	switch x := p[t].(type) {
	case constant:
		return api.Mono{Var: t, Coef: ratio.Whole(1)}, x.real
	case scale:
		_, ok := p[x.family[0]].(constant)
		return api.Mono{Var: x.family[0], Coef: x.times}, ok && ratio.Sign(x.times) != 0 && !isOne(x.times)
	}
	return api.Mono{}, false
}
