package optimum

import (
	"fulcrum/api"
	"fulcrum/delta"
	"fulcrum/linear"
	"fulcrum/ratio"
	"fulcrum/simplex"
	"fulcrum/tableau"
)

// taken is what the bounds that a dual takes say together: a form, and what it is at most. false, if there is no such bound, or one is taken less than 0 times.
func taken(s *simplex.Simplex, dual []api.Multiplier) (api.Form, api.Delta, bool) {
	var sum api.Form
	var most api.Delta
	for _, m := range dual {
		v, d := told(m.Why)
		l, _ := s.Limit(v) // of no variable it has no bound
		b := d.end(l)
		if !b.Has || ratio.Sign(m.Coef) < 0 {
			return nil, api.Delta{}, false
		}
		c := ratio.Mul(d.sign(), m.Coef)
		sum = append(sum, api.Mono{Var: v, Coef: c})
		most = delta.Add(most, delta.Scale(c, b.At))
	}
	return sum, most, true
}

// isSame tells whether two forms are the same under all values that keep the rows.
func isSame(t api.Tableau, f, g api.Form) bool {
	rest, _ := tableau.Express(t, linear.Sub(f, g)) // there are all variables of both
	return len(rest) == 0
}
