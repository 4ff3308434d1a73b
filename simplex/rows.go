package simplex

import (
	"cmp"
	"slices"

	"fulcrum/api"
	"fulcrum/delta"
	"fulcrum/linear"
	"fulcrum/ratio"
	"fulcrum/tableau"
)

// Define gives the variable that is a form.
func (s *Simplex) Define(f api.Form) (int, api.Errno) {
	form := linear.Norm(f)
	if !s.knows(form) {
		return 0, api.ErrVar
	}
	if v, ok := alone(form); ok {
		return v, api.OK
	}
	text := linear.Text(form)
	if v, ok := s.defined[text]; ok {
		return v, api.OK
	}
	t, v, e := tableau.Define(s.over(s.behind(form)), form)
	if e != api.OK {
		return 0, e
	}
	row := t.Rows[len(t.Rows)-1].Form   // rows stand by rising variables, and this one is new
	s.add(linear.Deltas(row, s.values)) // there is room for it: layer 7 has had as many variables
	s.rows[v], s.defined[text] = row, v
	return v, api.OK
}

// knows tells whether there are all variables of a normal form: they rise.
func (s *Simplex) knows(form api.Form) bool {
	return len(form) == 0 || form[0].Var >= 0 && form[len(form)-1].Var < len(s.values)
}

// alone is the variable, if a normal form says no more than that one.
func alone(form api.Form) (int, bool) {
	if len(form) != 1 || ratio.Cmp(form[0].Coef, ratio.Whole(1)) != 0 {
		return 0, false
	}
	return form[0].Var, true
}

// over is a tableau of all variables with some of the rows: layer 7 goes over all that it is handed, and most calls are about few rows.
func (s *Simplex) over(some []api.Row) api.Tableau {
	return api.Tableau{Vars: len(s.values), Rows: some}
}

// behind is the rows of the basic variables of a form.
func (s *Simplex) behind(form api.Form) []api.Row {
	var out []api.Row
	for _, part := range form {
		if row, isBasic := s.rows[part.Var]; isBasic {
			out = append(out, api.Row{Basic: part.Var, Form: row})
		}
	}
	return out
}

// column is the rows in which v, which is not basic, stands. Their order is not to be seen in anything.
func (s *Simplex) column(v int) []api.Row {
	var out []api.Row
	for basic, form := range s.rows {
		if _, stands := place(form, v); stands {
			out = append(out, api.Row{Basic: basic, Form: form})
		}
	}
	return out
}

// place is where v stands in a normal form, and whether it does.
func place(form api.Form, v int) (int, bool) {
	return slices.BinarySearchFunc(form, v, func(part api.Mono, v int) int { return cmp.Compare(part.Var, v) })
}

// shift adds so much to the value of v, which is not basic, and what that makes to the basic variables' values.
func (s *Simplex) shift(v int, by api.Delta) {
	s.values[v] = delta.Add(s.values[v], by)
	for _, row := range s.column(v) {
		i, _ := place(row.Form, v) // it stands in its column
		s.values[row.Basic] = delta.Add(s.values[row.Basic], delta.Scale(row.Form[i].Coef, by))
	}
}

// swap lets b and the variable of a part of its row change places; b's value becomes to.
func (s *Simplex) swap(b int, part api.Mono, to api.Delta) {
	times, _ := ratio.Inv(part.Coef) // no coefficient of a normal form is 0
	s.shift(part.Var, delta.Scale(times, delta.Sub(to, s.values[b])))
	t, _ := tableau.Pivot(s.over(s.column(part.Var)), b, part.Var) // b's row is one of these, and the variable is not basic
	delete(s.rows, b)
	for _, row := range t.Rows {
		s.rows[row.Basic] = row.Form
	}
	s.pivots++
}
