package clauses

import (
	"maps"
	"slices"

	"fulcrum/api"
	"fulcrum/terms"
)

// The literals of what is always true, and of what never is.
const (
	litTrue  = 1
	litFalse = -1
)

// encoder makes a term clauses.
type encoder struct {
	bank    *terms.Bank
	parts   map[int]api.Term // the terms of Bool that stand in it
	rising  []int            // their numbers: kids stand ahead of what they are kids of
	lits    map[int]int      // their literals
	table   []api.Atom
	clauses []api.Clause
}

// encoderOf is that of a term in normal form; the table is its own.
func encoderOf(b *terms.Bank, table []api.Atom, t int) *encoder {
	x := &encoder{bank: b, parts: partsOf(b, t), lits: map[int]int{}, table: table}
	x.rising = slices.Sorted(maps.Keys(x.parts))
	return x
}

// partsOf goes over each term once, on a list of its own: terms may stand too deep in one another for calls in calls.
func partsOf(b *terms.Bank, t int) map[int]api.Term {
	first, _ := b.Get(t)
	out := map[int]api.Term{t: first}
	open := []int{t}
	for len(open) > 0 {
		said := out[open[len(open)-1]]
		open = open[:len(open)-1]
		if isComparison(said) { // its kids are of Real
			continue
		}
		for _, kid := range said.Kids {
			if _, ok := out[kid]; !ok {
				out[kid], _ = b.Get(kid)
				open = append(open, kid)
			}
		}
	}
	return out
}

func isComparison(t api.Term) bool {
	return t.Kind == api.TermLess || t.Kind == api.TermAtMost
}

func (x *encoder) encode() api.Errno {
	l, e := x.entries()
	if e != api.OK {
		return e
	}
	if e := x.enter(l); e != api.OK {
		return e
	}
	say := rules()
	for _, n := range x.rising {
		x.find(n)
		x.keep(say[x.parts[n].Kind](x.gate(n)))
	}
	return api.OK
}

// find gives a term that has no atom of its own its literal; its kid has one.
func (x *encoder) find(n int) {
	switch t := x.parts[n]; t.Kind {
	case api.TermTrue:
		x.lits[n] = litTrue
	case api.TermFalse:
		x.lits[n] = litFalse
	case api.TermNot:
		x.lits[n] = -x.lits[t.Kids[0]]
	}
}

// gate is that of a term; the kids of a comparison, which are of Real, have no literals there.
func (x *encoder) gate(n int) gate {
	g := gate{is: x.lits[n]}
	for _, kid := range x.parts[n].Kids {
		g.kids = append(g.kids, x.lits[kid])
	}
	return g
}

// keep puts clauses behind the others, but those that are always true. None of them is there already: each has the literal of its own definition, which no term ahead has among its kids.
func (x *encoder) keep(l []api.Clause) {
	for _, c := range l {
		if c = tidy(c); !hasBoth(c) {
			x.clauses = append(x.clauses, c)
		}
	}
}
