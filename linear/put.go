package linear

import (
	"fulcrum/api"
	"fulcrum/ratio"
)

// Subst puts an affine form in a variable's place.
func Subst(f api.Affine, v int, g api.Affine) api.Affine {
	c, others := apart(f.Form, v)
	return api.Affine{
		Form:  sum(Norm(others), Scale(c, g.Form)),
		Const: ratio.Add(f.Const, ratio.Mul(c, g.Const)),
	}
}

// Solve is what a variable must be for an affine form to be 0.
func Solve(f api.Affine, v int) (api.Affine, api.Errno) {
	c, others := apart(f.Form, v)
	by, e := ratio.Inv(ratio.Neg(c))
	if e != api.OK {
		return api.Affine{}, api.ErrVar
	}
	return api.Affine{Form: Scale(by, others), Const: ratio.Mul(by, f.Const)}, api.OK
}

// Combine is a sum of affine forms, each so many times.
func Combine(l []api.Weighted) api.Affine {
	var parts api.Form
	var constants []api.Rat
	for _, w := range l {
		parts = append(parts, times(w.Coef, w.Of.Form)...)
		constants = append(constants, ratio.Mul(w.Coef, w.Of.Const))
	}
	return api.Affine{Form: collect(parts), Const: byHalves(constants, ratio.Whole(0), ratio.Add)}
}

// Rename gives each variable another number.
func Rename(f api.Form, to []int) (api.Form, api.Errno) {
	parts := Norm(f)
	for i, part := range parts {
		if !isPlace(part.Var, len(to)) {
			return nil, api.ErrVar
		}
		parts[i].Var = to[part.Var]
	}
	return collect(parts), api.OK
}

// apart is v's coefficient, and the parts of the other variables as they stand in f: these are read and not handed out.
func apart(f api.Form, v int) (api.Rat, api.Form) {
	var own []api.Rat
	var others api.Form
	for _, part := range f {
		if part.Var == v {
			own = append(own, ratio.Norm(part.Coef))
		} else {
			others = append(others, part)
		}
	}
	return byHalves(own, ratio.Whole(0), ratio.Add), others
}
