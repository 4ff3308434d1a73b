package analyse

import "fulcrum/api"

// Less takes out of what was learnt the literals that the others make needless. What forces a mark stands ahead of it, so those of the set that count for a literal are among the others that have not been gone over.
func Less(clauses []api.Clause, marks []api.Mark, l api.Learnt) (api.Learnt, api.Errno) {
	t, e := read(clauses, marks)
	if e != api.OK {
		return api.Learnt{}, e
	}
	if !t.isLesson(l.Clause) {
		return api.Learnt{}, api.ErrLearn
	}
	others, low := newFalling(), newFalling()
	for _, lit := range l.Clause[1:] {
		others.put(t.placeOf(lit))
	}
	clause, chain := api.Clause{l.Clause[0]}, append([]int{}, l.Chain...)
	for !others.isEmpty() {
		place := others.next()
		if t.isNeedless(place, others) {
			chain = t.dropped(place, low, chain)
			continue
		}
		clause = append(clause, -marks[place].Lit)
	}
	return api.Learnt{Clause: clause, Back: t.back(clause), Chain: chain}, api.OK
}

// isLesson tells whether a clause is false, each literal standing there once, none of level 0, and its first literal alone on the greatest level.
func (t *trail) isLesson(c api.Clause) bool {
	if len(c) == 0 || !t.isBroken(c) {
		return false
	}
	seen := map[int]struct{}{}
	for i, lit := range c {
		level := t.levelOf(lit)
		if level == 0 || i > 0 && level >= t.levelOf(c[0]) {
			return false
		}
		seen[lit] = struct{}{}
	}
	return len(seen) == len(c)
}

// isNeedless tells whether all that forced a mark is in a set, or of level 0.
func (t *trail) isNeedless(place int, set *falling) bool {
	if t.marks[place].Reason == decided {
		return false
	}
	for cause := range t.causes(place) {
		if t.marks[cause].Level > 0 && !set.has(cause) {
			return false
		}
	}
	return true
}

// dropped puts behind a chain the reasons by which a needless literal goes: its own, and those that what it brings in of level 0 is cleaned with.
func (t *trail) dropped(place int, low *falling, chain []int) []int {
	low.put(place)
	for !low.isEmpty() {
		place = low.next()
		chain = append(chain, t.marks[place].Reason)
		for cause := range t.causes(place) {
			if t.marks[cause].Level == 0 {
				low.put(cause)
			}
		}
	}
	return chain
}
