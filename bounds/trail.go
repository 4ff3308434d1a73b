package bounds

import "fulcrum/api"

// trail is the level, and what was moved at it and at those below, the oldest Change first.
type trail struct {
	level   int
	changes []api.Change
}

// begin goes one level up.
func (t *trail) begin() {
	t.level++
}

// note puts down what a bound was, ahead of its being moved.
func (t *trail) note(v int, upper bool, was api.Bound) {
	t.changes = append(t.changes, api.Change{Var: v, Upper: upper, Level: t.level, Was: was})
}

// take takes off the youngest Change, if it was made above that level.
func (t *trail) take(level int) (api.Change, bool) {
	last := len(t.changes) - 1
	if last < 0 || t.changes[last].Level <= level {
		return api.Change{}, false
	}
	c := t.changes[last]
	t.changes[last] = api.Change{} // a number that is gone is not to be kept behind the list's end
	t.changes = t.changes[:last]
	return c, true
}

// Push begins a level.
func (s *Store) Push() {
	if !s.isNone() {
		s.begin()
	}
}

// Level is how many levels were begun and not left.
func (s *Store) Level() int {
	if s.isNone() {
		return 0
	}
	return s.level
}

// Back leaves all levels above one.
func (s *Store) Back(level int) api.Errno {
	switch {
	case s.isNone():
		return api.ErrArg
	case level < 0 || level > s.level:
		return api.ErrLevel
	}
	for c, ok := s.take(level); ok; c, ok = s.take(level) {
		*side(&s.limits[c.Var], c.Upper) = c.Was
	}
	s.level = level
	return api.OK
}
