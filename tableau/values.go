package tableau

import (
	"fulcrum/api"
	"fulcrum/delta"
	"fulcrum/linear"
)

// Extend gives the basic variables the values that the others' values make.
func Extend(t api.Tableau, vals []api.Delta) ([]api.Delta, api.Errno) {
	all, e := readFor(t, vals)
	if e != api.OK {
		return nil, e
	}
	var out []api.Delta
	for v, val := range vals {
		if form, isBasic := all[v]; isBasic {
			val = linear.Deltas(form, vals)
		}
		out = append(out, delta.Norm(val))
	}
	return out, api.OK
}

// Holds tells whether values keep all rows.
func Holds(t api.Tableau, vals []api.Delta) (bool, api.Errno) {
	all, e := readFor(t, vals)
	if e != api.OK {
		return false, e
	}
	for basic, form := range all {
		if delta.Cmp(vals[basic], linear.Deltas(form, vals)) != 0 {
			return false, api.OK
		}
	}
	return true, api.OK
}

// readFor is the rows, if the tableau may be and has as many variables as there are values.
func readFor(t api.Tableau, vals []api.Delta) (rows, api.Errno) {
	all, e := read(t)
	if e == api.OK && len(vals) != t.Vars {
		return nil, api.ErrArg
	}
	return all, e
}

// Same tells whether just the same values keep both.
func Same(a, b api.Tableau) (bool, api.Errno) {
	left, e := read(a)
	if e != api.OK {
		return false, e
	}
	right, e := read(b)
	if e != api.OK {
		return false, e
	}
	if a.Vars != b.Vars {
		return false, api.ErrArg
	}
	// Each row takes one dimension away, as its basic variable stands in it alone. So if what keeps the left rows keeps the right ones too, and there are as many, it is the same.
	return len(left) == len(right) && left.imply(right, a.Vars), api.OK
}

// imply: values that keep all of these rows keep the others.
func (all rows) imply(others rows, vars int) bool {
	for basic, form := range others {
		nought, _ := express(vars, all, linear.Sub(form, alone(basic))) // both have the same variables
		if len(nought) > 0 {
			return false
		}
	}
	return true
}
