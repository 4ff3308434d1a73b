package simplex

import (
	"fulcrum/api"
	"fulcrum/delta"
)

// Model is rational values that keep all bounds.
func (s *Simplex) Model() ([]api.Rat, api.Errno) {
	if s.Fits(s.values) >= 0 {
		return nil, api.ErrOpen
	}
	amount, _ := delta.Small(s.gaps()) // all values fit, so no gap is the wrong way round
	var out []api.Rat
	for _, value := range s.values {
		out = append(out, delta.At(value, amount))
	}
	return out, api.OK
}

// gaps is what lies between each value and its bounds.
func (s *Simplex) gaps() []api.Gap {
	var out []api.Gap
	for v, value := range s.values {
		l, _ := s.Limit(v)
		if l.Lower.Has {
			out = append(out, api.Gap{Lo: l.Lower.At, Hi: value})
		}
		if l.Upper.Has {
			out = append(out, api.Gap{Lo: value, Hi: l.Upper.At})
		}
	}
	return out
}
