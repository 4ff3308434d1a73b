package units

import "fulcrum/api"

// decided is the Reason of what no clause forced.
const decided = -1

// truth is above 0, if a literal is true, below 0, if it is false, else 0. Without its sign it is the place of the literal's mark, from 1 on.
func (s *Store) truth(lit int) int {
	if lit < 0 {
		return -s.truths[-lit]
	}
	return s.truths[lit]
}

// put makes an open literal true.
func (s *Store) put(lit, level, reason int) {
	s.marks = append(s.marks, api.Mark{Lit: lit, Level: level, Reason: reason})
	if lit < 0 {
		s.truths[-lit] = -len(s.marks)
	} else {
		s.truths[lit] = len(s.marks)
	}
}

// take takes the last mark off.
func (s *Store) take() {
	last := len(s.marks) - 1
	lit := s.marks[last].Lit
	s.truths[max(lit, -lit)] = 0
	s.marks = s.marks[:last]
}

// Value is 1, if an atom is true, -1, if it is false, 0, if neither is known.
func (s *Store) Value(atom int) (int, api.Errno) {
	switch {
	case s.isNone():
		return 0, api.ErrArg
	case atom < 1 || atom > s.Atoms():
		return 0, api.ErrVar
	case s.truth(atom) > 0:
		return 1, api.OK
	case s.truth(atom) < 0:
		return -1, api.OK
	}
	return 0, api.OK
}

// Marks is the literals that were made true, in their order.
func (s *Store) Marks() []api.Mark {
	if s.isNone() {
		return nil
	}
	out := make([]api.Mark, len(s.marks))
	copy(out, s.marks)
	return out
}

// Level is how many levels were begun and not left.
func (s *Store) Level() int {
	if s.isNone() || len(s.marks) == 0 {
		return 0
	}
	return s.marks[len(s.marks)-1].Level
}

// Decide begins a level, in which a literal is true.
func (s *Store) Decide(lit int) api.Errno {
	switch {
	case !s.isLit(lit):
		return api.ErrArg
	case s.truth(lit) != 0:
		return api.ErrTrail
	}
	s.put(lit, s.Level()+1, decided)
	return api.OK
}

// Force makes a literal true by a clause of which all others are false.
func (s *Store) Force(lit, clause int) api.Errno {
	switch {
	case !s.isLit(lit):
		return api.ErrArg
	case clause < 0 || clause >= len(s.clauses):
		return api.ErrClause
	case !s.forces(s.clauses[clause].lits, lit):
		return api.ErrTrail
	}
	s.put(lit, s.Level(), clause)
	return api.OK
}

// forces tells whether a clause forces a literal.
func (s *Store) forces(c api.Clause, lit int) bool {
	has := false
	for _, other := range c {
		if other == lit {
			has = true
		} else if s.truth(other) >= 0 {
			return false
		}
	}
	return has && s.truth(lit) == 0
}

// Back leaves all levels above one. What was late at one of them may force its literal anew.
func (s *Store) Back(level int) api.Errno {
	switch {
	case s.isNone():
		return api.ErrArg
	case level < 0 || level > s.Level():
		return api.ErrLevel
	}
	for s.Level() > level {
		s.take()
	}
	s.followed = min(s.followed, len(s.marks))
	for last := len(s.late) - 1; last >= 0 && s.late[last].level > level; last-- {
		s.fresh = append(s.fresh, s.late[last].clause)
		s.late = s.late[:last]
	}
	return api.OK
}
