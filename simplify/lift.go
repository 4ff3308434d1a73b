package simplify

import "fulcrum/api"

// lifter puts constants in the places of ites of Real.
type lifter struct {
	maker
	parts parts
	now   map[int]int // of each term in which such an ite stands: the term in its place
	out   api.Lifted
}

func (l *lifter) lift(t int) (api.Lifted, api.Errno) {
	for _, n := range l.parts.rising() {
		switch {
		case isRealChoice(l.parts[n]):
			l.now[n] = l.replace(n)
		case l.hasMoved(n):
			l.now[n] = l.rebuild(n)
		}
	}
	l.out.Term = l.place(t)
	if l.fault != api.OK {
		return api.Lifted{}, l.fault
	}
	return l.out, api.OK
}

// place is the term in a term's place: itself, if it is pure.
func (l *lifter) place(t int) int {
	if now, ok := l.now[t]; ok {
		return now
	}
	return t
}

func (l *lifter) places(kids []int) []int {
	out := make([]int, 0, len(kids))
	for _, kid := range kids {
		out = append(out, l.place(kid))
	}
	return out
}

// hasMoved tells whether a kid has another term in its place.
func (l *lifter) hasMoved(t int) bool {
	for _, kid := range l.parts[t].kids() {
		if _, ok := l.now[kid]; ok {
			return true
		}
	}
	return false
}

func (l *lifter) rebuild(t int) int {
	said, _ := l.bank.Get(t)
	said.Kids = l.places(said.Kids)
	return l.put(said)
}

// replace is the constant that stands for an ite of Real; it is fixed to what the ite is.
func (l *lifter) replace(t int) int {
	s := l.stand(t)
	kids := l.places(l.parts[t].kids())
	is, then, other := kids[0], kids[1], kids[2]
	l.out.Stands = append(l.out.Stands, s)
	l.out.Fixed = append(l.out.Fixed,
		l.add(api.TermImplies, is, l.add(api.TermEqual, s, then)),
		l.add(api.TermImplies, l.add(api.TermNot, is), l.add(api.TermEqual, s, other)))
	return s
}
