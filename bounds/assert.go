package bounds

import (
	"fulcrum/api"
	"fulcrum/delta"
)

// Lift asserts a lower bound.
func (s *Store) Lift(v int, at api.Delta, why int) (api.Verdict, api.Errno) {
	return s.assert(v, false, at, why)
}

// Press asserts an upper bound.
func (s *Store) Press(v int, at api.Delta, why int) (api.Verdict, api.Errno) {
	return s.assert(v, true, at, why)
}

// assert is both: what is tighter than the other bound lies beyond it, as that one is of the other side.
func (s *Store) assert(v int, upper bool, at api.Delta, why int) (api.Verdict, api.Errno) {
	if e := s.lacks(v); e != api.OK {
		return api.Verdict{}, e
	}
	own, other := side(&s.limits[v], upper), side(&s.limits[v], !upper)
	switch {
	case own.Has && !tighter(upper, at, own.At):
		return api.Verdict{Kind: api.BoundKept}, api.OK
	case other.Has && tighter(upper, at, other.At):
		return api.Verdict{Kind: api.BoundClash, Other: other.Why}, api.OK
	}
	s.note(v, upper, *own)
	*own = api.Bound{Has: true, At: delta.Norm(at), Why: why}
	return api.Verdict{Kind: api.BoundMoved}, api.OK
}

// side is the lower or the upper bound, to be read or moved.
func side(l *api.Limit, upper bool) *api.Bound {
	if upper {
		return &l.Upper
	}
	return &l.Lower
}
