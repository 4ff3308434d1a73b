package simplify

// formula is what a term of Bool says: a truth, a literal, or a junction of others. Its opposite costs nothing, however much is in it.
type formula interface {
	opposite() formula
}

// truth is true or false.
type truth bool

func (x truth) opposite() formula {
	return !x
}

// literal is a constant of Bool, an atom, a TermEqual or a TermIte in normal form, or the opposite of one.
type literal struct {
	term    int
	negated bool
}

func (x literal) opposite() formula {
	return literal{term: x.term, negated: !x.negated}
}

// junction is all of its parts, or (or) one of them. What it comes to is found out only where that is asked: of junctions in junctions of one kind, however many and however deep, but the outermost one need be a term.
type junction struct {
	or     bool
	parts  []formula
	turned bool      // each part counts as its opposite
	other  *junction // its opposite, if that was asked for
	seen   int       // the last look that came by here

	is   formula   // what it comes to, as soon as that is known: a truth, a literal, another junction, or itself
	term int       // if that is itself: its term
	kids []formula // and what its kids are, literals and junctions of the other kind
}

func join(or bool, parts ...formula) *junction {
	return &junction{or: or, parts: parts}
}

func (j *junction) opposite() formula {
	if j.other == nil {
		j.other = &junction{or: !j.or, parts: j.parts, turned: !j.turned, other: j}
	}
	return j.other
}

// part is one of the parts, as it counts.
func (j *junction) part(i int) formula {
	if j.turned {
		return j.parts[i].opposite()
	}
	return j.parts[i]
}
