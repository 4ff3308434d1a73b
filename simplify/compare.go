package simplify

import (
	"fulcrum/api"
	"fulcrum/linear"
	"fulcrum/ratio"
)

// line is where one term of Real less another one is 0: a shape at a number. Falls tells that the difference falls where the shape rises.
type line struct {
	shape api.Form
	at    api.Rat
	falls bool
}

// line is that of two terms; if their difference is the same everywhere there is none, but the sign of it.
func (n *normalizer) line(u, v int) (l line, sign int, ok bool) {
	form := linear.Sub(n.forms[u].Form, n.forms[v].Form)
	constant := ratio.Sub(n.forms[u].Const, n.forms[v].Const)
	if len(form) == 0 {
		return line{}, ratio.Sign(constant), false
	}
	shape, often := linear.Prime(form)
	at, _ := ratio.Div(constant, ratio.Neg(often)) // a form with variables is no multiple by 0
	return line{shape: shape, at: at, falls: ratio.Sign(often) < 0}, 0, true
}

// atom is the term that says that the line's shape is at most its number, or (strict) below it.
func (n *normalizer) atom(l line, strict bool) int {
	shape, at := n.real(api.Affine{Form: l.shape}), n.real(api.Affine{Const: l.at})
	if strict {
		return n.add(api.TermLess, shape, at)
	}
	return n.add(api.TermAtMost, shape, at)
}

// compare says that u is at most v, or (strict) below it.
func (n *normalizer) compare(strict bool, u, v int) formula {
	l, sign, ok := n.line(u, v)
	if !ok {
		return truth(sign < 0 || sign == 0 && !strict)
	}
	return literal{term: n.atom(l, strict != l.falls), negated: l.falls}
}

// meet says that u and v are the same.
func (n *normalizer) meet(u, v int) formula {
	l, sign, ok := n.line(u, v)
	if !ok {
		return truth(sign == 0)
	}
	return join(false, literal{term: n.atom(l, false)}, literal{term: n.atom(l, true), negated: true})
}

// differ says that no two of some terms are the same.
func (n *normalizer) differ(l []int) formula {
	var out []formula
	for i, u := range l {
		for _, v := range l[:i] {
			apart := n.meet(u, v).opposite()
			if apart == truth(false) || n.fault != api.OK {
				return truth(false)
			}
			out = append(out, apart)
		}
	}
	return join(false, out...)
}
