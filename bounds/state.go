package bounds

import (
	"math"
	"slices"

	"fulcrum/api"
	"fulcrum/delta"
)

// State tells all that it is.
func (s *Store) State() api.Bounds {
	if s.isNone() {
		return api.Bounds{}
	}
	out := api.Bounds{Limits: make([]api.Limit, len(s.limits)), Level: s.level, Trail: make([]api.Change, len(s.changes))}
	for i, l := range s.limits {
		out.Limits[i] = copyLimit(l)
	}
	for i, c := range s.changes {
		c.Was = copyBound(c.Was)
		out.Trail[i] = c
	}
	return out
}

// Load is the store that a state tells.
func Load(s api.Bounds) (*Store, api.Errno) {
	if !mayBe(s) {
		return nil, api.ErrState
	}
	out := &Store{made: true, limits: make([]api.Limit, len(s.Limits)), trail: trail{level: s.Level, changes: make([]api.Change, len(s.Trail))}}
	for i, l := range s.Limits {
		out.limits[i] = api.Limit{Lower: normal(l.Lower), Upper: normal(l.Upper)}
	}
	for i, c := range s.Trail {
		c.Was = normal(c.Was)
		out.changes[i] = c
	}
	return out, api.OK
}

func mayBe(s api.Bounds) bool {
	if len(s.Limits) > api.MaxVars || s.Level < 0 || s.Level > math.MaxInt32 {
		return false
	}
	for _, l := range s.Limits {
		if !limitMayBe(l) {
			return false
		}
	}
	level := 0
	for _, c := range s.Trail {
		if c.Var < 0 || c.Var >= len(s.Limits) || c.Level < level || c.Level > s.Level || !boundMayBe(c.Was) {
			return false
		}
		level = c.Level
	}
	return leadsBack(s)
}

func limitMayBe(l api.Limit) bool {
	clash := l.Lower.Has && l.Upper.Has && tighter(false, l.Lower.At, l.Upper.At)
	return boundMayBe(l.Lower) && boundMayBe(l.Upper) && !clash
}

// boundMayBe asks a bound that is none for no more than zero values: a nought as a limb is too much.
func boundMayBe(b api.Bound) bool {
	return b.Has || b.Why == 0 && isBare(b.At.A) && isBare(b.At.B)
}

func isBare(r api.Rat) bool {
	return !r.Num.Neg && len(r.Num.Abs) == 0 && len(r.Den) == 0
}

// leadsBack tells whether each Change of the trail moved a bound to a tighter one.
func leadsBack(s api.Bounds) bool {
	then := slices.Clone(s.Limits)
	for _, c := range slices.Backward(s.Trail) {
		b := side(&then[c.Var], c.Upper)
		if !b.Has || c.Was.Has && !tighter(c.Upper, b.At, c.Was.At) {
			return false
		}
		*b = c.Was
	}
	return true
}

// normal is the same bound in new memory, its number normal.
func normal(b api.Bound) api.Bound {
	if !b.Has {
		return api.Bound{}
	}
	return api.Bound{Has: true, At: delta.Norm(b.At), Why: b.Why}
}

func copyLimit(l api.Limit) api.Limit {
	return api.Limit{Lower: copyBound(l.Lower), Upper: copyBound(l.Upper)}
}

// copyBound is a bound of the store in new memory. Its number is normal already, and what has no bound stays without limbs, as Load asks for it.
func copyBound(b api.Bound) api.Bound {
	b.At = api.Delta{A: copyRat(b.At.A), B: copyRat(b.At.B)}
	return b
}

func copyRat(r api.Rat) api.Rat {
	r.Num.Abs = append(api.Nat(nil), r.Num.Abs...)
	r.Den = append(api.Nat(nil), r.Den...)
	return r
}
