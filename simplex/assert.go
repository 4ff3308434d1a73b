package simplex

import (
	"fulcrum/api"
	"fulcrum/delta"
	"fulcrum/ratio"
)

// Lift gives a variable a lower bound.
func (s *Simplex) Lift(v int, d api.Delta, why int) ([]api.Multiplier, api.Errno) {
	said, e := s.Store.Lift(v, d, why)
	if e != api.OK {
		return nil, e
	}
	return s.heed(said, v, why)
}

// Press gives a variable an upper bound.
func (s *Simplex) Press(v int, d api.Delta, why int) ([]api.Multiplier, api.Errno) {
	said, e := s.Store.Press(v, d, why)
	if e != api.OK {
		return nil, e
	}
	return s.heed(said, v, why)
}

// heed does what a bound of v asks for behind what the store said to it.
func (s *Simplex) heed(said api.Verdict, v, why int) ([]api.Multiplier, api.Errno) {
	if said.Kind == api.BoundClash {
		return []api.Multiplier{once(why), once(said.Other)}, api.ErrClash
	}
	if _, isBasic := s.rows[v]; isBasic {
		return nil, api.OK
	}
	if _, end, isOut := s.beyond(v); isOut {
		s.shift(v, delta.Sub(end.At, s.values[v]))
	}
	return nil, api.OK
}

// once takes the bound with that why one time.
func once(why int) api.Multiplier {
	return api.Multiplier{Why: why, Coef: ratio.Whole(1)}
}
