package linear

import (
	"fulcrum/api"
	"fulcrum/ratio"
)

// Prime is a form's shape: coprime whole coefficients, the first one above 0; and how often it is taken.
func Prime(f api.Form) (api.Form, api.Rat) {
	normal := Norm(f)
	var coefs []api.Rat
	for _, part := range normal {
		coefs = append(coefs, part.Coef)
	}
	often := byHalves(coefs, ratio.Whole(1), common)
	back, _ := ratio.Inv(often) // no coefficient of a normal form is 0
	return Scale(back, normal), often
}

// common is the number furthest from 0, on c's side of it, of which c and d are whole multiples; neither of them is 0. If d / c is n / m in lowest terms, then c is m times that number, and d is n times.
func common(c, d api.Rat) api.Rat {
	q, _ := ratio.Div(d, c)
	return ratio.Mul(c, api.Rat{Num: ratio.Whole(1).Num, Den: q.Den})
}
