package simplex

import (
	"fulcrum/api"
	"fulcrum/ratio"
)

// Check finds values within all bounds, or why there are none. It takes the least variables throughout (Bland's rule), as otherwise it could go round without an end.
func (s *Simplex) Check() ([]api.Multiplier, api.Errno) {
rounds:
	for b := s.Fits(s.values); b >= 0; b = s.Fits(s.values) { // b is basic: all others keep their bounds
		back, end, _ := s.beyond(b)
		for _, part := range s.rows[b] {
			if s.hasRoom(part.Var, back.of(part)) {
				s.swap(b, part, end.At)
				continue rounds
			}
		}
		return s.explain(end.Why, s.rows[b], back), api.ErrClash
	}
	return nil, api.OK
}

// explain is why a form can't go that way: the bound with that why asks for it, and others hold the form's variables.
func (s *Simplex) explain(why int, form api.Form, w way) []api.Multiplier {
	out := []api.Multiplier{once(why)}
	for _, part := range form {
		l, _ := s.Limit(part.Var) // there are all variables of the rows
		out = append(out, api.Multiplier{Why: w.of(part).end(l).Why, Coef: ratio.Abs(part.Coef)})
	}
	return out
}
