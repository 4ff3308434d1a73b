package implied

import (
	"fulcrum/api"
	"fulcrum/delta"
	"fulcrum/linear"
	"fulcrum/ratio"
)

// equation is parts, normal, whose sum is 0, and the limits of which their variables have theirs.
type equation struct {
	parts  api.Form
	limits []api.Limit
}

func equationOf(r api.Row, limits []api.Limit) equation {
	basic := api.Form{{Var: r.Basic, Coef: ratio.Whole(1)}}
	return equation{linear.Sub(r.Form, basic), limits}
}

// limit is a variable's bounds: none, if it has no place.
func (q equation) limit(v int) api.Limit {
	if v < 0 || v >= len(q.limits) {
		return api.Limit{}
	}
	return q.limits[v]
}

// least is the bound of a part's variable below which the part does not fall.
func (q equation) least(part api.Mono) api.Bound {
	if ratio.Sign(part.Coef) > 0 {
		return q.limit(part.Var).Lower
	}
	return q.limit(part.Var).Upper
}

// most is the bound of a part's variable above which the part does not rise.
func (q equation) most(part api.Mono) api.Bound {
	if ratio.Sign(part.Coef) > 0 {
		return q.limit(part.Var).Upper
	}
	return q.limit(part.Var).Lower
}

// side is what is known of the parts' sum on one side. It is summed up once for all variables, as a row may have many.
type side struct {
	parts api.Form
	end   func(part api.Mono) api.Bound // the bound that holds a part on this side
	total api.Delta                     // of the parts that are held
	free  int                           // how many parts are not
}

// heldBy is the sum's side on which these ends hold the parts.
func (q equation) heldBy(end func(part api.Mono) api.Bound) side {
	out := side{parts: q.parts, end: end}
	var held api.Form // its variables are places of ends: those of the parts may be any ints
	var ends []api.Delta
	for _, part := range q.parts {
		b := end(part)
		if !b.Has {
			out.free++
			continue
		}
		held = append(held, api.Mono{Var: len(ends), Coef: part.Coef})
		ends = append(ends, b.At)
	}
	out.total = linear.Deltas(held, ends)
	return out
}

// bound is the bound of a part's variable that follows from the other parts on this side, if all of them are held.
func (s side) bound(part api.Mono) (api.Delta, bool) {
	own := s.end(part)
	if s.free > 1 || s.free == 1 && own.Has {
		return api.Delta{}, false
	}
	others := s.total
	if own.Has {
		others = delta.Sub(others, delta.Scale(part.Coef, own.At))
	}
	times, _ := ratio.Inv(ratio.Neg(part.Coef)) // no coefficient of a normal form is 0
	return delta.Scale(times, others), true
}

// by is the bounds of the other parts' variables of which that one follows.
func (s side) by(part api.Mono) []api.Multiplier {
	var out []api.Multiplier
	for _, other := range s.parts {
		if other.Var == part.Var {
			continue
		}
		times, _ := ratio.Div(other.Coef, part.Coef) // no coefficient of a normal form is 0
		out = append(out, api.Multiplier{Why: s.end(other).Why, Coef: ratio.Abs(times)})
	}
	return out
}

// sides is both sides of an equation's sum.
type sides struct{ least, most side }

func (q equation) bothSides() sides {
	return sides{least: q.heldBy(q.least), most: q.heldBy(q.most)}
}

// behind is the side from which a bound of a part's variable follows: the part is what the others lack of 0, so it is greatest where they are least; and its variable goes against it, if the coefficient is below 0.
func (s sides) behind(part api.Mono, upper bool) side {
	if upper == (ratio.Sign(part.Coef) > 0) {
		return s.least
	}
	return s.most
}

// tell is the implied bounds that are asked for. What proves them is worked out for these alone.
func (q equation) tell(isAsked func(i api.Implied) bool) []api.Implied {
	var out []api.Implied
	both := q.bothSides()
	for _, part := range q.parts {
		for _, upper := range [...]bool{false, true} {
			s := both.behind(part, upper)
			at, ok := s.bound(part)
			i := api.Implied{Var: part.Var, Upper: upper, At: at}
			if !ok || !isAsked(i) {
				continue
			}
			i.By = s.by(part)
			out = append(out, i)
		}
	}
	return out
}
