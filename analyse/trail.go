package analyse

import (
	"iter"
	"math"
	"slices"

	"fulcrum/api"
)

// decided is the Reason of a mark that no clause forced.
const decided = -1

// trail is marks that may be, over these clauses.
type trail struct {
	clauses []api.Clause
	marks   []api.Mark
	places  places
}

// read takes marks one by one, so that each is held against those ahead of it.
func read(clauses []api.Clause, marks []api.Mark) (*trail, api.Errno) {
	t := &trail{clauses, marks, newPlaces(marks)}
	level := 0
	for i, m := range marks {
		if isNone(m.Lit) || t.places.of(m.Lit) != 0 || !t.follows(m, level) {
			return nil, api.ErrTrail
		}
		t.places.put(m.Lit, i+1)
		level = m.Level
	}
	return t, api.OK
}

// follows tells whether a mark may stand behind those that were taken, the last of which has that level.
func (t *trail) follows(m api.Mark, level int) bool {
	if m.Reason == decided {
		return m.Level == level+1
	}
	return m.Level == level && isPlace(m.Reason, t.clauses) && t.forces(t.clauses[m.Reason], m.Lit)
}

// forces tells whether a clause has a literal, and all else of it is false.
func (t *trail) forces(c api.Clause, lit int) bool {
	for _, other := range c {
		if other != lit && !t.isFalse(other) {
			return false
		}
	}
	return slices.Contains(c, lit)
}

func (t *trail) isFalse(lit int) bool {
	return t.places.of(lit) < 0
}

// isBroken tells whether all literals of a clause are false.
func (t *trail) isBroken(c api.Clause) bool {
	for _, lit := range c {
		if !t.isFalse(lit) {
			return false
		}
	}
	return true
}

// placeOf is where the mark stands that made a literal false, from 0 on, as a Reason's place is told.
func (t *trail) placeOf(lit int) int {
	return -t.places.of(lit) - 1
}

// levelOf is the level of a literal that is false.
func (t *trail) levelOf(lit int) int {
	return t.marks[t.placeOf(lit)].Level
}

// causes goes over the places of the marks by which a mark was forced.
func (t *trail) causes(place int) iter.Seq[int] {
	return func(yield func(int) bool) {
		m := t.marks[place]
		for _, lit := range t.clauses[m.Reason] {
			if lit != m.Lit && !yield(t.placeOf(lit)) {
				return
			}
		}
	}
}

// resolve puts into a set, in the place of one that was taken out, what forced that one, and tells the reason.
func (t *trail) resolve(place int, set *falling) int {
	for cause := range t.causes(place) {
		set.put(cause)
	}
	return t.marks[place].Reason
}

// back is the level to go back to with a clause whose literals fall behind the first one.
func (t *trail) back(c api.Clause) int {
	if len(c) == 1 {
		return 0
	}
	return t.levelOf(c[1])
}

func isPlace(n int, clauses []api.Clause) bool {
	return n >= 0 && n < len(clauses)
}

// isNone tells what is no literal.
func isNone(lit int) bool {
	return lit == 0 || lit == math.MinInt
}

func atom(lit int) int {
	return max(lit, -lit)
}
