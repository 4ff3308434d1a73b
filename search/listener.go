package search

import "fulcrum/api"

// listener is a theory, or none (nil), and what it has been told.
type listener struct {
	theory Theory
	told   []int // the literals, in their order
	begun  []int // of each level how many literals had been told ahead of it
	heard  []int // of each atom 1, -1, as it was told, or 0. (Place 0 is of no atom.)
	failed bool  // whether it was not honest
}

func newListener(atoms int, t Theory) listener {
	return listener{theory: t, heard: make([]int, atoms+1)}
}

// call calls the theory. One that panics is not honest.
func (l *listener) call(f func()) {
	defer func() {
		if recover() != nil {
			l.failed = true
		}
	}()
	f()
}

// begin tells of a level.
func (l *listener) begin() {
	l.begun = append(l.begun, len(l.told))
	l.call(func() { l.theory.Push() })
}

// tell tells of a literal that is true.
func (l *listener) tell(lit int) api.Said {
	l.told = append(l.told, lit)
	l.heard[atomOf(lit)] = sign(lit)
	var said api.Said
	l.call(func() { said = l.theory.Assert(lit) })
	return said
}

// ask asks whether all that was told may be.
func (l *listener) ask() api.Said {
	var said api.Said
	l.call(func() { said = l.theory.Final() })
	return said
}

// leave tells that all levels above one are left, if any was told of.
func (l *listener) leave(level int) {
	if level >= len(l.begun) {
		return
	}
	stays := l.begun[level]
	for _, lit := range l.told[stays:] {
		l.heard[atomOf(lit)] = 0
	}
	l.told, l.begun = l.told[:stays], l.begun[:level]
	l.call(func() { l.theory.Back(level) })
}

// isHonest tells whether the theory may say that, as far as that can be told.
func (l *listener) isHonest(said api.Said) bool {
	if lit, ok := l.unheard(said.Clash); !ok || lit != 0 {
		return false
	}
	for _, c := range said.Implied {
		if _, ok := l.unheard(c); !ok || len(c) == 0 {
			return false
		}
	}
	return true
}

// unheard is the one literal of a clause that was not told to be false, or 0, if there is none; not ok, if there are more, or what is no literal.
func (l *listener) unheard(c api.Clause) (int, bool) {
	one := 0
	for _, lit := range c {
		switch {
		case lit == 0 || lit <= -len(l.heard) || lit >= len(l.heard):
			return 0, false
		case l.heard[atomOf(lit)] == -sign(lit):
		case one != 0 && one != lit:
			return 0, false
		default:
			one = lit
		}
	}
	return one, true
}

func atomOf(lit int) int {
	return max(lit, -lit)
}

func sign(lit int) int {
	if lit < 0 {
		return -1
	}
	return 1
}
