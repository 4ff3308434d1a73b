package units

// Propagate forces what clauses force: the number of a clause that is false, or -1.
func (s *Store) Propagate() int {
	if s.isNone() {
		return -1
	}
	for {
		if n := s.settle(); n >= 0 {
			return n
		}
		if s.followed == len(s.marks) {
			return -1
		}
		s.fresh = append(s.fresh, s.watchers[list(-s.marks[s.followed].Lit)]...)
		s.followed++
	}
}

// settle looks at all clauses that are fresh, up to one that is broken: that one stays fresh, with those ahead of it, so that the next call comes to it first. Where none is broken it is -1.
func (s *Store) settle() int {
	for last := len(s.fresh) - 1; last >= 0; last-- {
		n := s.fresh[last]
		if !s.look(n) {
			return n
		}
		s.fresh = s.fresh[:last]
	}
	return -1
}

// look lets a clause be watched by its best literals, and forces what it forces: whether it is not broken.
func (s *Store) look(n int) bool {
	c := &s.clauses[n]
	if s.isSafe(c.by) {
		return true
	}
	best := s.best(c)
	s.watch(n, best.lits)
	switch {
	case best.falls[0] != never:
		return false
	case best.falls[1] == never:
		return true
	}
	one, other := best.lits[0], best.lits[1]
	if s.truth(one) == 0 {
		s.put(one, s.Level(), n)
	}
	// Where the other one's mark is yet to be followed the clause is looked at once more then.
	if best.falls[1] <= s.followed && s.since(one) > s.since(other) {
		s.late = append(s.late, late{n, s.Level()})
	}
	return true
}

// isSafe tells whether one of two literals is true, and stays so as long as the other one is false.
func (s *Store) isSafe(by [2]int) bool {
	for side, lit := range by {
		if s.truth(lit) > 0 && s.since(lit) <= s.since(by[1-side]) {
			return true
		}
	}
	return false
}

// since is the level of a literal's mark; of an open one it is never, of none the level that is not left.
func (s *Store) since(lit int) int {
	if lit == 0 {
		return 0
	}
	at := s.truth(lit)
	if at == 0 {
		return never
	}
	return s.marks[max(at, -at)-1].Level
}

// best is the two literals of a clause that become false last. Those by which it is watched come first, then the others from the place at which the last search ended: so a long clause is not gone over from its beginning for each literal that becomes false.
func (s *Store) best(c *watched) pair {
	var best pair
	for _, lit := range c.by {
		best.offer(lit, s.falls(lit))
	}
	for range c.lits {
		if best.falls[1] == never {
			break
		}
		lit := c.lits[c.next]
		best.offer(lit, s.falls(lit))
		c.next = (c.next + 1) % len(c.lits)
	}
	return best
}

// falls is the place of the mark by which a literal became false, from 1 on; of one that is not false it is never, of none 0.
func (s *Store) falls(lit int) int {
	switch at := s.truth(lit); {
	case lit == 0:
		return 0
	case at < 0:
		return -at
	}
	return never
}
