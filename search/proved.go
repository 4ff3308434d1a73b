package search

import "fulcrum/api"

// settle gives each literal that is true on level 0 a step of its own, so that what leans on it leans on one step, however long the way to it was. The clause that forced it is true for good: it may say no more than that from then on.
func (s *Solver) settle() {
	marks := s.store.Marks()
	for _, m := range marks[s.settled:] {
		from := &s.origins[m.Reason]
		by := []int{from.step}
		for _, lit := range s.clauses[m.Reason] {
			if lit != m.Lit {
				by = append(by, s.facts[atomOf(lit)]-1)
			}
		}
		if len(by) > 1 {
			from.step = s.write(api.StepUnits, api.Clause{m.Lit}, by)
			s.clauses[m.Reason] = api.Clause{m.Lit}
		}
		if from.rank > 0 {
			from.rank = 0
			s.learnt--
		}
		s.facts[atomOf(m.Lit)] = from.step + 1
	}
	s.settled = len(marks)
}

// grounds is on what it leans that some literals are false: the literals that were decided, and the steps of the clauses that forced the others.
func (s *Solver) grounds(lits []int) ([]int, []int) {
	var decided, by []int
	marks := s.store.Marks()
	sought := map[int]struct{}{}
	for _, lit := range lits {
		sought[atomOf(lit)] = struct{}{}
	}
	for place := len(marks) - 1; len(sought) > 0; place-- {
		m := marks[place]
		if _, is := sought[atomOf(m.Lit)]; !is {
			continue
		}
		delete(sought, atomOf(m.Lit))
		if m.Reason < 0 {
			decided = append(decided, m.Lit)
			continue
		}
		by = append(by, s.origins[m.Reason].step)
		for _, lit := range s.clauses[m.Reason] {
			if lit != m.Lit {
				sought[atomOf(lit)] = struct{}{}
			}
		}
	}
	return decided, by
}

// wake puts each clause that rests and is broken among the others: whether there are any.
func (s *Solver) wake() bool {
	any := false
	for _, step := range s.resting {
		if c := s.steps[step].Clause; s.isBroken(c) {
			s.put(c, origin{step, len(c)})
			any = true
		}
	}
	return any
}

// refute records that clauses can't be true together, as one of them is false on level 0.
func (s *Solver) refute(conflict int) {
	_, by := s.grounds(s.clauses[conflict])
	s.refuted = 1 + s.write(api.StepUnits, nil, append(by, s.origins[conflict].step))
}

// repeat puts a step of the empty clause behind what came behind the first one.
func (s *Solver) repeat() {
	if s.refuted < len(s.steps) {
		s.write(api.StepUnits, nil, []int{s.refuted - 1})
	}
}

// blame records that assumptions can't be true together, where one of them is false: those on which that leans, and that one, in the order in which they were made.
func (s *Solver) blame(assume []int, wrong int) []int {
	decided, by := s.grounds([]int{wrong})
	guilty := map[int]struct{}{wrong: {}}
	for _, lit := range decided {
		guilty[lit] = struct{}{}
	}
	var core []int
	var clause api.Clause
	for _, lit := range assume {
		if _, is := guilty[lit]; is {
			core, clause = append(core, lit), append(clause, -lit)
			delete(guilty, lit)
		}
	}
	s.write(api.StepUnits, clause, by)
	return core
}
