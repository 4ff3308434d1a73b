package units

import (
	"math"

	"fulcrum/api"
)

// never is when a literal becomes false that is not.
const never = math.MaxInt

// watched is a clause as it was added, and the two literals of it that watch for it. While both are not false it is neither broken nor forces anything, so it is looked at where one of them becomes false, not ahead of that. 0 stands for a literal that there is not; it is false from the beginning.
type watched struct {
	lits api.Clause
	by   [2]int // not alike, but for 0
	at   [2]int // the clause's places in their lists of watchers
	next int    // the place at which the next search for one of them begins
}

// pair is two literals that are not alike, but for 0, and when each becomes false: that which does so later comes first.
type pair struct{ lits, falls [2]int }

// offer takes a literal into the pair, if it becomes false later than one that is there.
func (p *pair) offer(lit, falls int) {
	switch {
	case lit == p.lits[0]:
	case falls > p.falls[0]:
		p.lits, p.falls = [2]int{lit, p.lits[0]}, [2]int{falls, p.falls[0]}
	case falls > p.falls[1]:
		p.lits[1], p.falls[1] = lit, falls
	}
}

// late is a clause that was forcing, or would have been, at a lower level than that at which its literal was made true: where the level is left that was the last one then the clause is to be looked at once more.
type late struct{ clause, level int }

// side is which of the two a literal is.
func (c *watched) side(lit int) int {
	if c.by[0] == lit {
		return 0
	}
	return 1
}

// list is a literal's place among the lists of watchers.
func list(lit int) int {
	if lit < 0 {
		return -2*lit + 1
	}
	return 2 * lit
}

// watch lets a clause be watched by these two. One by which it is watched already keeps its place.
func (s *Store) watch(n int, by [2]int) {
	c := &s.clauses[n]
	if by[0] == c.by[1] || by[1] == c.by[0] {
		by[0], by[1] = by[1], by[0]
	}
	for side, lit := range by {
		if lit != c.by[side] {
			s.leave(n, side)
			s.join(n, side, lit)
		}
	}
}

// leave takes a clause out of a list of watchers: the last one there takes its place.
func (s *Store) leave(n, side int) {
	c := &s.clauses[n]
	lit, at := c.by[side], c.at[side]
	if lit == 0 {
		return
	}
	l := s.watchers[list(lit)]
	last := &s.clauses[l[len(l)-1]]
	last.at[last.side(lit)] = at
	l[at] = l[len(l)-1]
	s.watchers[list(lit)] = l[:len(l)-1]
}

// join puts a clause into a list of watchers.
func (s *Store) join(n, side, lit int) {
	c := &s.clauses[n]
	c.by[side] = lit
	if lit == 0 {
		return
	}
	c.at[side] = len(s.watchers[list(lit)])
	s.watchers[list(lit)] = append(s.watchers[list(lit)], n)
}
