package search

import (
	"cmp"
	"slices"

	"fulcrum/api"
	"fulcrum/units"
)

const (
	// mostAwake is how many of the clauses that were added the store takes; those behind rest. So there is room for what is learnt, however much of that may not go: no more than MaxTerms clauses are reasons of marks.
	mostAwake = api.MaxClauses / 2
	// At first so many clauses that were learnt are kept, and so many more each time that some have gone.
	roomAtFirst = 1500
	roomMore    = 300
)

// origin is where a clause comes from: its step, and a rank, the lower the better; of a clause that was added 0.
type origin struct{ step, rank int }

// library is the clauses by which literals are forced, and the literals that are true.
type library struct {
	store   *units.Store
	clauses []api.Clause // those of the store, by its numbers; but a clause that forced a fact has no other literal here
	origins []origin     // of each of these
	resting []int        // the steps of the clauses that rest
	learnt  int          // so many of the clauses were not added
	room    int
	facts   []int // of each atom whose literal is a fact, that is true on level 0 by a step of its own, that step from 1 on; else 0. (Place 0 is of no atom.)
	settled int   // so many marks are of facts
}

func newLibrary(store *units.Store) library {
	return library{store: store, room: roomAtFirst, facts: make([]int, store.Atoms()+1)}
}

// put keeps a clause.
func (l *library) put(c api.Clause, o origin) {
	if len(l.clauses) >= api.MaxClauses {
		l.shrink()
	}
	l.store.Add(c)
	l.clauses = append(l.clauses, c)
	l.origins = append(l.origins, o)
	if o.rank > 0 {
		l.learnt++
	}
}

// value is 1, if a literal is true, -1, if it is false, else 0.
func (l *library) value(lit int) int {
	truth, _ := l.store.Value(atomOf(lit))
	return truth * sign(lit)
}

// isBroken tells whether all literals of a clause are false.
func (l *library) isBroken(c api.Clause) bool {
	return !slices.ContainsFunc(c, func(lit int) bool { return l.value(lit) >= 0 })
}

// isTrueForGood tells whether a fact makes a clause true.
func (l *library) isTrueForGood(c api.Clause) bool {
	return slices.ContainsFunc(c, func(lit int) bool { return l.facts[atomOf(lit)] > 0 && l.value(lit) > 0 })
}

// tidy lets clauses go, if many were learnt. Where most of them may not go there is room for as many more, or else each that comes would have all looked at again.
func (l *library) tidy() {
	if l.learnt > l.room {
		l.shrink()
		l.room = max(l.room+roomMore, 2*l.learnt)
	}
}

// shrink builds the store anew, without the clauses that are to go.
func (l *library) shrink() {
	marks := l.store.Marks()
	stays := l.chosen(marks)
	numbers := make([]int, len(l.clauses))
	var clauses []api.Clause
	var origins []origin
	l.learnt = 0
	for n, c := range l.clauses {
		if !stays[n] {
			continue
		}
		numbers[n] = len(clauses)
		clauses = append(clauses, c)
		origins = append(origins, l.origins[n])
		if l.origins[n].rank > 0 {
			l.learnt++
		}
	}
	for i, m := range marks {
		if m.Reason >= 0 {
			marks[i].Reason = numbers[m.Reason]
		}
	}
	l.clauses, l.origins = clauses, origins
	l.store, _ = units.Load(l.store.Atoms(), clauses, marks)
}

// chosen tells of each clause whether it stays: reasons do; of the others those that are true for good go, and the worse half of what was learnt.
func (l *library) chosen(marks []api.Mark) []bool {
	stays := make([]bool, len(l.clauses))
	for _, m := range marks {
		if m.Reason >= 0 {
			stays[m.Reason] = true
		}
	}
	var learnt []int
	for n, c := range l.clauses {
		switch {
		case stays[n] || l.isTrueForGood(c):
		case l.origins[n].rank == 0:
			stays[n] = true
		default:
			learnt = append(learnt, n)
		}
	}
	slices.SortFunc(learnt, func(a, b int) int {
		return cmp.Or(l.origins[a].rank-l.origins[b].rank, len(l.clauses[a])-len(l.clauses[b]), b-a)
	})
	for _, n := range learnt[:len(learnt)/2] {
		stays[n] = true
	}
	return stays
}
