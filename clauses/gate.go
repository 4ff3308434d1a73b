package clauses

import (
	"slices"

	"fulcrum/api"
)

// gate is a term's literal, and those of its kids.
type gate struct {
	is   int
	kids []int
}

// rules are what clauses each kind of terms in normal form has, each at its kind's place: those that tie a term's literal to its kids'.
func rules() []func(gate) []api.Clause {
	return []func(gate) []api.Clause{
		api.TermTrue:   gate.nothing,
		api.TermFalse:  gate.nothing,
		api.TermName:   gate.nothing,
		api.TermNot:    gate.nothing,
		api.TermAnd:    gate.and,
		api.TermOr:     gate.or,
		api.TermIte:    gate.choice,
		api.TermEqual:  gate.equal,
		api.TermLess:   gate.nothing,
		api.TermAtMost: gate.nothing,
	}
}

// nothing is what there is to say of a term whose literal says all.
func (g gate) nothing() []api.Clause {
	return nil
}

// and is one that is not, if one of its kids is not.
func (g gate) and() []api.Clause {
	return gate{is: -g.is, kids: opposites(g.kids)}.or()
}

// or takes each literal once: a constant that stands for a term has the literal of that.
func (g gate) or() []api.Clause {
	kids := tidy(slices.Clone(g.kids))
	out := []api.Clause{append(slices.Clone(kids), -g.is)}
	for _, kid := range kids {
		out = append(out, api.Clause{-kid, g.is})
	}
	return out
}

// choice is the second kid, or the third one.
func (g gate) choice() []api.Clause {
	return append(linked(g.kids[0], g.is, g.kids[1]), linked(-g.kids[0], g.is, g.kids[2])...)
}

func (g gate) equal() []api.Clause {
	return append(linked(g.is, g.kids[0], g.kids[1]), linked(-g.is, g.kids[0], -g.kids[1])...)
}

// linked says that where one literal is true two others are both true, or both are not.
func linked(where, a, b int) []api.Clause {
	return []api.Clause{{-where, a, -b}, {-where, -a, b}}
}

func opposites(l []int) []int {
	out := make([]int, 0, len(l))
	for _, lit := range l {
		out = append(out, -lit)
	}
	return out
}
