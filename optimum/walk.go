package optimum

import (
	"cmp"
	"slices"

	"fulcrum/api"
	"fulcrum/delta"
	"fulcrum/linear"
	"fulcrum/ratio"
	"fulcrum/simplex"
	"fulcrum/tableau"
)

// walk is values on their way to the last ones of a form. At each step they are within the bounds.
type walk struct {
	limits []api.Limit
	values []api.Delta
	rows   []api.Row // in any order
	form   api.Form  // by variables that are not basic
}

// stop is a variable that meets a bound, once the one that moves has gone so far.
type stop struct {
	v     int
	after api.Delta
}

// setOut is a walk at its beginning; ErrClash, if there are no values within the bounds.
func setOut(s *simplex.Simplex, f api.Form) (*walk, api.Errno) {
	own := s.Clone() // as Check changes the one that is asked
	if _, e := own.Check(); e != api.OK {
		return nil, e
	}
	t := own.Tableau()
	form, _ := tableau.Express(t, f) // there are all its variables
	w := &walk{rows: t.Rows, form: form}
	for v := range own.Size() {
		limit, _ := own.Limit(v)
		value, _ := own.Value(v)
		w.limits, w.values = append(w.limits, limit), append(w.values, value)
	}
	return w, api.OK
}

// run goes on till the form can't get any further; false, if there is no end to it. Of the variables that could help, and of those that are stopped first, the least one is taken (Bland's rule), as otherwise steps of no length could go round.
func (w *walk) run(d direction) bool {
rounds:
	for {
		for _, part := range w.form {
			way := times(part.Coef, d)
			if !w.hasRoom(part.Var, way) {
				continue
			}
			first, ends := w.step(part.Var, way)
			if !ends {
				return false
			}
			if first != part.Var {
				w.swap(first, part.Var)
				continue rounds
			} // else the form is as it was, and those ahead have no room still
		}
		return true
	}
}

// hasRoom tells whether v can go that way at all.
func (w *walk) hasRoom(v int, d direction) bool {
	room, ends := w.room(v, d)
	return !ends || delta.Sign(room) > 0
}

// room is how far v can go; false, if no bound is on its way.
func (w *walk) room(v int, d direction) (api.Delta, bool) {
	b := d.end(w.limits[v])
	if !b.Has {
		return api.Delta{}, false
	}
	return delta.Scale(d.sign(), delta.Sub(b.At, w.values[v])), true
}

// step lets v, which is not basic, go till a bound is met, and tells whose that is; false, if there is none.
func (w *walk) step(v int, d direction) (int, bool) {
	moved := w.column(v)
	stops := w.stops(moved, d)
	if len(stops) == 0 {
		return 0, false
	}
	first := slices.MinFunc(stops, sooner)
	w.move(moved, delta.Scale(d.sign(), first.after))
	return first.v, true
}

// column is what moves with v, and how many times as far: v itself, and the basic variables in whose rows it stands.
func (w *walk) column(v int) []api.Mono {
	out := []api.Mono{{Var: v, Coef: ratio.Whole(1)}}
	for _, row := range w.rows {
		if i, stands := place(row.Form, v); stands {
			out = append(out, api.Mono{Var: row.Basic, Coef: row.Form[i].Coef})
		}
	}
	return out
}

// place is where v stands in a normal form, and whether it does.
func place(form api.Form, v int) (int, bool) {
	return slices.BinarySearchFunc(form, v, func(part api.Mono, v int) int { return cmp.Compare(part.Var, v) })
}

// stops is the bounds that are on the way of what moves.
func (w *walk) stops(moved []api.Mono, d direction) []stop {
	var out []stop
	for _, part := range moved {
		room, ends := w.room(part.Var, times(part.Coef, d))
		if ends {
			slower, _ := ratio.Inv(ratio.Abs(part.Coef)) // no coefficient of a column is 0
			out = append(out, stop{part.Var, delta.Scale(slower, room)})
		}
	}
	return out
}

func sooner(a, b stop) int {
	return cmp.Or(delta.Cmp(a.after, b.after), cmp.Compare(a.v, b.v))
}

func (w *walk) move(moved []api.Mono, by api.Delta) {
	for _, part := range moved {
		w.values[part.Var] = delta.Add(w.values[part.Var], delta.Scale(part.Coef, by))
	}
}

// swap lets b, which is basic, and v change places. Rows without v stay as they are, and are not handed to layer 7, which goes over all that it is handed.
func (w *walk) swap(b, v int) {
	var with, without []api.Row
	for _, row := range w.rows {
		if _, stands := place(row.Form, v); stands {
			with = append(with, row)
		} else {
			without = append(without, row)
		}
	}
	t, _ := tableau.Pivot(api.Tableau{Vars: len(w.values), Rows: with}, b, v) // b's row is one of these
	w.rows = append(without, t.Rows...)
	i := slices.IndexFunc(t.Rows, func(row api.Row) bool { return row.Basic == v })
	w.form = linear.Subst(api.Affine{Form: w.form}, v, api.Affine{Form: t.Rows[i].Form}).Form
}

// optimum is what a walk that has come to its end tells: the bounds that hold the form's variables there are the dual.
func (w *walk) optimum(f api.Affine, d direction) api.Optimum {
	value := delta.Add(linear.Deltas(f.Form, w.values), delta.Of(f.Const))
	out := api.Optimum{Kind: api.OptAttained, Value: value, Values: w.values}
	if ratio.Sign(value.B) != 0 {
		out.Kind = api.OptSupremum
	}
	for _, part := range w.form {
		out.Dual = append(out.Dual, api.Multiplier{Why: times(part.Coef, d).tells(part.Var), Coef: ratio.Abs(part.Coef)})
	}
	return out
}
