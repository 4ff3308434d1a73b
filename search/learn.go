package search

import (
	"math/bits"
	"slices"

	"fulcrum/analyse"
	"fulcrum/api"
)

// learn takes from a broken clause what it teaches, and goes back to where that forces a literal.
func (r *run) learn(conflict int) state {
	marks := r.store.Marks()
	lesson, e := analyse.First(r.clauses, marks, conflict)
	if e != api.OK { // all is of level 0
		r.refute(conflict)
		return unsat
	}
	lesson, _ = analyse.Less(r.clauses, marks, lesson)
	levels, _ := analyse.Glue(marks, lesson.Clause)
	r.bump(lesson.Chain)
	by := r.stepsOf(lesson.Chain)
	r.goBack(lesson.Back)
	if len(by) > 1 { // else the clause was there already
		step := r.write(api.StepUnits, lesson.Clause, by)
		r.put(r.steps[step].Clause, origin{step, levels})
	}
	if r.pace.isOver() {
		r.goBack(0)
	}
	return forcing
}

// goBack leaves levels, with the assumptions that were made there.
func (r *run) goBack(level int) {
	r.back(level)
	r.held = 0
}

// bump makes the atoms of clauses more active.
func (s *Solver) bump(chain []int) {
	for _, n := range chain {
		for _, lit := range s.clauses[n] {
			s.order.Bump(atomOf(lit) - 1)
		}
	}
	s.order.Decay()
}

// stepsOf is the steps of clauses, each once, rising.
func (s *Solver) stepsOf(chain []int) []int {
	var by []int
	for _, n := range chain {
		by = append(by, s.origins[n].step)
	}
	slices.Sort(by)
	return slices.Compact(by)
}

// firstRun is how many conflicts there are at least ahead of beginning anew.
const firstRun = 100

// pace tells when a search begins anew: behind so many conflicts as Luby's numbers tell (1 1 2 1 1 2 4 1 ..), that many times firstRun. As no number is the greatest one, a search comes to its end however many clauses are let go.
type pace struct {
	runs int // this is the run of that number, from 1 on
	left int // so many conflicts are left in it
}

func newPace() pace {
	return pace{1, firstRun}
}

// isOver counts a conflict: whether a run is over with it.
func (p *pace) isOver() bool {
	p.left--
	if p.left > 0 {
		return false
	}
	p.runs++
	p.left = firstRun * luby(p.runs)
	return true
}

// luby is the number at that place, from 1 on: half of a power of two stands behind all that stands ahead of it, twice.
func luby(place int) int {
	for {
		size := bits.Len(uint(place))
		if place == 1<<size-1 {
			return 1 << (size - 1)
		}
		place -= 1<<(size-1) - 1
	}
}
