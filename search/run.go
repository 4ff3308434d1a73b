package search

import "fulcrum/api"

// state is what comes next in a search.
type state int

const (
	forcing  state = iota // clauses force literals
	telling               // the theory is told of them
	deciding              // a literal more is made true
	closing               // each atom has a truth: may it be so?
	sat
	unsat
)

// manyMarks: for each so many marks one decision more is made ahead of telling the theory.
const manyMarks = 128

// run is one search.
type run struct {
	*Solver
	assume   []int
	held     int              // so many of the assumptions are true
	core     []int            // the assumptions that can't all be true
	promised map[int]struct{} // literals that clauses of the theory are to force next
	waits    int              // so many decisions are made ahead of telling the theory
	pace     pace
}

func newRun(s *Solver, assume []int) *run {
	return &run{Solver: s, assume: copied(assume), promised: map[int]struct{}{}, pace: newPace()}
}

// search goes from state to state up to an answer, or up to what the theory may not say.
func (r *run) search() api.Found {
	if r.refuted > 0 {
		r.repeat()
		return api.Found{Kind: api.SearchUnsat}
	}
	now := forcing
	for now < sat && !r.failed {
		now = r.next(now)
	}
	if now == sat {
		return api.Found{Kind: api.SearchSat, Model: r.model()}
	}
	return api.Found{Kind: api.SearchUnsat, Core: r.core}
}

func (r *run) next(now state) state {
	switch now {
	case forcing:
		return r.force()
	case telling:
		return r.report()
	case deciding:
		return r.decide()
	}
	return r.finish()
}

// force makes true what clauses force, up to one that is broken.
func (r *run) force() state {
	if len(r.promised) > 0 {
		r.promised = map[int]struct{}{}
	}
	conflict := r.store.Propagate()
	switch {
	case conflict >= 0:
		return r.learn(conflict)
	case r.store.Level() == 0:
		r.settle()
	}
	r.tidy()
	if r.theory == nil || r.waits > 0 {
		return deciding
	}
	return telling
}

// report tells the theory of what it has not been told. As all marks are copied for that, it is done the more seldom the more there are.
func (r *run) report() state {
	marks := r.store.Marks()
	r.waits = len(marks) / manyMarks
	before := r.extent()
	for _, m := range marks[len(r.told):] {
		if m.Reason < 0 {
			r.begin()
		}
		if !r.heed(r.tell(m.Lit)) {
			break
		}
	}
	return r.after(before, deciding)
}

// extent counts what may have come in while the theory was called: clauses, each with a step, and atoms.
func (r *run) extent() int {
	return len(r.steps) + r.Atoms()
}

// after is what comes next behind calls of the theory: where something has come in since it is to be looked at first.
func (r *run) after(before int, next state) state {
	if r.extent() > before {
		return forcing
	}
	return next
}

// heed keeps the clauses of the theory that say something new, up to one that is broken: whether none is.
func (r *run) heed(said api.Said) bool {
	switch {
	case r.failed || !r.isHonest(said):
		r.failed = true
		return false
	case len(said.Clash) > 0:
		r.keep(said.Clash)
		return false
	}
	for _, c := range said.Implied {
		lit, _ := r.unheard(c)
		switch {
		case lit == 0 || r.value(lit) < 0:
			r.keep(c)
			return false
		case r.value(lit) == 0:
			r.promise(lit, c)
		}
	}
	return true
}

// promise keeps a clause of the theory that forces a literal, but none that does so beside another one.
func (r *run) promise(lit int, c api.Clause) {
	if _, is := r.promised[lit]; !is {
		r.promised[lit] = struct{}{}
		r.keep(c)
	}
}

// keep puts a clause of the theory among the others. It stands on no more levels than it has literals.
func (r *run) keep(c api.Clause) {
	step := r.write(api.StepFarkas, c, nil)
	r.put(r.steps[step].Clause, origin{step, len(c)})
}

// decide makes a literal more true: an assumption, or the atom that was bumped most, as it was last.
func (r *run) decide() state {
	for ; r.held < len(r.assume); r.held++ {
		lit := r.assume[r.held]
		switch r.value(lit) {
		case -1:
			r.core = r.blame(r.assume, lit)
			return unsat
		case 0:
			return r.suppose(lit)
		}
	}
	for r.order.Len() > 0 {
		v, _ := r.order.Pop()
		switch atom := v + 1; {
		case r.value(atom) != 0:
		case r.liked[atom]:
			return r.suppose(atom)
		default:
			return r.suppose(-atom)
		}
	}
	if r.theory != nil && len(r.told) < r.Atoms() {
		return telling
	}
	return closing
}

// suppose begins a level.
func (r *run) suppose(lit int) state {
	r.store.Decide(lit)
	r.waits--
	return forcing
}

// finish looks at what has not been looked at yet, where each atom has a truth: clauses that rest, and the theory.
func (r *run) finish() state {
	if r.wake() {
		return forcing
	}
	if r.theory == nil {
		return sat
	}
	before := r.extent()
	r.heed(r.ask())
	return r.after(before, sat)
}

// model is the truth of each atom.
func (r *run) model() []bool {
	model := make([]bool, r.Atoms()+1)
	for atom := range model {
		model[atom] = atom > 0 && r.value(atom) > 0
	}
	return model
}
