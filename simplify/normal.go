package simplify

import (
	"fulcrum/api"
	"fulcrum/terms"
)

// A term that weighs at most MaxWeight is never refused in a bank of at most sureTerms. Another one is, if it would take more than mostSteps, of which working out a coefficient takes some.
const (
	sureTerms = 1 << 16
	mostSteps = 1 << 24
	coefSteps = 4
)

// normalizer makes terms of Bool normal.
type normalizer struct {
	maker
	parts     parts
	forms     map[int]api.Affine // those of the terms of Real that are compared
	said      map[int]formula    // what the terms of Bool say, as far as they were gone over
	looks     int                // how often a junction was looked at
	mayRefuse bool
	left      int // steps
}

func normalizerOf(b *terms.Bank, p parts) *normalizer {
	weight := p.weight()
	n := &normalizer{maker: maker{bank: b}, parts: p, said: map[int]formula{}, left: mostSteps}
	n.mayRefuse = weight > api.MaxWeight || b.Len() > sureTerms
	n.spend(coefSteps * weight)
	return n
}

// spend takes steps from those that are left.
func (n *normalizer) spend(steps int) {
	n.left -= min(steps, n.left+1)
	if n.mayRefuse && n.left < 0 {
		n.fault = api.ErrFull
	}
}

// formula is what a pure term of Bool says; all that stands in it is looked at ahead of it.
func (n *normalizer) formula(t int) formula {
	n.workOutForms()
	for _, t := range n.parts.rising() {
		if n.fault != api.OK {
			return truth(false)
		}
		if x := n.parts[t]; !isReal(x) {
			n.said[t] = n.says(t, x)
		}
	}
	return n.said[t]
}

// workOutForms finds the forms of all terms that are compared at once.
func (n *normalizer) workOutForms() {
	var asked []int
	seen := map[int]struct{}{}
	for _, x := range n.parts {
		if !n.parts.comparesReals(x) {
			continue
		}
		for _, kid := range x.kids() {
			if _, ok := seen[kid]; !ok {
				seen[kid] = struct{}{}
				asked = append(asked, kid)
			}
		}
	}
	n.spend(coefSteps * min(len(asked), len(n.parts.amounts())+1) * len(n.parts))
	if n.fault != api.OK {
		return
	}
	n.forms = n.parts.affines(asked)
	for _, f := range n.forms {
		n.spend(limbsIn(f)) // numbers that grew from term to term may be far longer than those of the terms
	}
}

func limbsIn(f api.Affine) int {
	out := limbsOf(f.Const)
	for _, part := range f.Form {
		out += limbsOf(part.Coef)
	}
	return out
}

// says is what one term says, if it is known what its kids say.
func (n *normalizer) says(t int, of term) formula {
	switch x := of.(type) {
	case truth:
		return x
	case negation:
		return n.said[x.family[0]].opposite()
	case connective:
		return join(x.or, n.kids(x)...)
	case implication:
		kids := n.kids(x)
		return join(true, kids[0].opposite(), kids[1])
	case exclusion:
		kids := n.kids(x)
		return n.equal(kids[0], kids[1]).opposite()
	case equality:
		return n.saysEqual(x)
	case distinction:
		return n.saysDistinct(x)
	case comparison:
		return n.compare(x.strict, x.family[0], x.family[1])
	case choice:
		kids := n.kids(x)
		return n.choose(n.settled(kids[0]), n.settled(kids[1]), n.settled(kids[2]))
	}
	return literal{term: t}
}

func (n *normalizer) kids(t term) []formula {
	var out []formula
	for _, kid := range t.kids() {
		out = append(out, n.said[kid])
	}
	return out
}

func (n *normalizer) saysEqual(x equality) formula {
	if n.parts.comparesReals(x) {
		return n.meet(x.family[0], x.family[1])
	}
	kids := n.kids(x)
	return n.equal(kids[0], kids[1])
}

func (n *normalizer) saysDistinct(x distinction) formula {
	if n.parts.comparesReals(x) {
		return n.differ(x.family)
	}
	if len(x.family) > 2 { // there are but two truths
		return truth(false)
	}
	kids := n.kids(x)
	return n.equal(kids[0], kids[1]).opposite()
}

// equal is true, if two formulas say the same.
func (n *normalizer) equal(a, b formula) formula {
	a, b = n.settled(a), n.settled(b)
	if x, ok := a.(truth); ok {
		return sameAs(x, b)
	}
	if x, ok := b.(truth); ok {
		return sameAs(x, a)
	}
	s, t, turned := bare(a), bare(b), isNegated(a) != isNegated(b)
	if s == t {
		return truth(!turned)
	}
	return literal{term: n.add(api.TermEqual, min(s, t), max(s, t)), negated: turned}
}

func sameAs(x truth, f formula) formula {
	if x {
		return f
	}
	return f.opposite()
}

// choose is the one of two settled formulas that another one chooses. Only what may not stand in a TermIte is taken apart.
func (n *normalizer) choose(is, then, other formula) formula {
	if isNegated(is) {
		is, then, other = is.opposite(), other, then
	}
	if x, ok := is.(truth); ok {
		if x {
			return then
		}
		return other
	}
	if x, ok := then.(truth); ok {
		return join(bool(x), sameAs(x, is), other)
	}
	if x, ok := other.(truth); ok {
		return join(bool(x), sameAs(!x, is), then)
	}
	if bare(then) == bare(other) && isNegated(then) == isNegated(other) {
		return then
	}
	return literal{term: n.add(api.TermIte, n.number(is), n.number(then), n.number(other))}
}
