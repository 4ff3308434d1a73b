package simplex

import (
	"fulcrum/api"
	"fulcrum/delta"
	"fulcrum/ratio"
)

// way is where a value goes: up or down. A coefficient's sign times the way of a form is the way of its part's variable.
type way int

const (
	up   way = 1
	down way = -1
)

// end is the bound that a value meets on its way.
func (w way) end(l api.Limit) api.Bound {
	if w == up {
		return l.Upper
	}
	return l.Lower
}

// past is above 0, if a value has gone beyond a bound on its way, 0, if it is there, and below 0 short of it.
func (w way) past(value api.Delta, b api.Bound) int {
	return int(w) * delta.Cmp(value, b.At)
}

// of is the way that a part's variable has to go for its form to go that way.
func (w way) of(part api.Mono) way {
	return w * way(ratio.Sign(part.Coef))
}

// beyond tells whether v is low or high: the way back in, and the bound that it is beyond.
func (s *Simplex) beyond(v int) (way, api.Bound, bool) {
	l, _ := s.Limit(v) // there is v
	for _, w := range [...]way{up, down} {
		if b := w.end(l); b.Has && w.past(s.values[v], b) > 0 {
			return -w, b, true
		}
	}
	return 0, api.Bound{}, false
}

// hasRoom tells whether v's value can go that way without leaving its bounds.
func (s *Simplex) hasRoom(v int, w way) bool {
	l, _ := s.Limit(v) // there is v
	b := w.end(l)
	return !b.Has || w.past(s.values[v], b) < 0
}
