package tableau

import (
	"maps"
	"slices"

	"fulcrum/api"
	"fulcrum/linear"
	"fulcrum/ratio"
)

// rows is the forms of a tableau that may be, all of them normal and in memory of their own, by their basic variables.
type rows map[int]api.Form

// read is the rows of a tableau, if it may be.
func read(t api.Tableau) (rows, api.Errno) {
	if t.Vars < 0 || t.Vars > api.MaxVars {
		return nil, api.ErrTableau
	}
	all := rows{}
	for _, row := range t.Rows {
		if _, twice := all[row.Basic]; twice || !isVar(row.Basic, t.Vars) {
			return nil, api.ErrTableau
		}
		all[row.Basic] = linear.Norm(row.Form)
	}
	for _, form := range all {
		if !all.mayHave(form, t.Vars) {
			return nil, api.ErrTableau
		}
	}
	return all, api.OK
}

// mayHave: all variables of a form are the tableau's, and none is basic.
func (all rows) mayHave(form api.Form, vars int) bool {
	for _, part := range form {
		if _, isBasic := all[part.Var]; isBasic || !isVar(part.Var, vars) {
			return false
		}
	}
	return true
}

// told is the tableau, normal, that takes over the rows' memory.
func told(vars int, all rows) api.Tableau {
	out := api.Tableau{Vars: vars}
	for _, v := range all.basics() {
		out.Rows = append(out.Rows, api.Row{Basic: v, Form: all[v]})
	}
	return out
}

func (all rows) basics() []int {
	return slices.Sorted(maps.Keys(all))
}

// with is the rows in which v stands.
func (all rows) with(v int) rows {
	out := rows{}
	for basic, form := range all {
		if stands(form, v) {
			out[basic] = form
		}
	}
	return out
}

// stands is asked of normal forms.
func stands(form api.Form, v int) bool {
	return slices.ContainsFunc(form, func(part api.Mono) bool { return part.Var == v })
}

// express is f, normal, with the basic variables' forms in their places.
func express(vars int, all rows, f api.Form) (api.Form, api.Errno) {
	var sum []api.Weighted
	for _, part := range linear.Norm(f) {
		if !isVar(part.Var, vars) {
			return nil, api.ErrVar
		}
		form, isBasic := all[part.Var]
		if !isBasic {
			form = alone(part.Var)
		}
		sum = append(sum, api.Weighted{Of: api.Affine{Form: form}, Coef: part.Coef})
	}
	return linear.Combine(sum).Form, api.OK
}

// pivot lets a basic variable and another one change places; with an error nothing has changed.
func (all rows) pivot(basic, other int) api.Errno {
	was, isBasic := all[basic]
	if _, otherToo := all[other]; otherToo || !isBasic {
		return api.ErrBasic
	}
	now, e := linear.Solve(api.Affine{Form: linear.Sub(was, alone(basic))}, other)
	if e != api.OK {
		return api.ErrPivot
	}
	delete(all, basic)
	for v, form := range all.with(other) {
		all[v] = linear.Subst(api.Affine{Form: form}, other, now).Form
	}
	all[other] = now.Form
	return api.OK
}

// alone is the form that says one variable.
func alone(v int) api.Form {
	return api.Form{{Var: v, Coef: ratio.Whole(1)}}
}

func isVar(v, vars int) bool {
	return 0 <= v && v < vars
}
