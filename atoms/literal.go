package atoms

import (
	"strings"

	"fulcrum/api"
	"fulcrum/linear"
	"fulcrum/ratio"
)

// literal is an atom of a table, or (denied) its opposite. It shares the table's memory, so it is read and not handed out.
type literal struct {
	of     api.Atom
	denied bool
}

// read is a literal of a table, if that may be.
func read(l []api.Atom, lit int) (literal, api.Errno) {
	if e := Check(l); e != api.OK {
		return literal{}, e
	}
	return literalOf(l, lit)
}

// literalOf is asked of a table that may be. The least int has no opposite, so lit is held against the table's length as it is.
func literalOf(l []api.Atom, lit int) (literal, api.Errno) {
	switch {
	case 1 <= lit && lit <= len(l):
		return literal{of: l[lit-1]}, api.OK
	case -len(l) <= lit && lit <= -1:
		return literal{of: l[-lit-1], denied: true}, api.OK
	}
	return literal{}, api.ErrAtom
}

// isStrict tells whether an inequality's bound itself is not as the literal says.
func (x literal) isStrict() bool {
	return x.of.Strict != x.denied
}

// isOfOneForm tells whether two literals are inequalities' of the same form.
func (x literal) isOfOneForm(y literal) bool {
	return len(x.of.Form) > 0 && len(y.of.Form) > 0 && linear.Cmp(x.of.Form, y.of.Form) == 0
}

// isInside tells, of two literals of one form, whether each number that is as x says is as y says: both go on without an end on one side, and x does not end behind y on the other.
func (x literal) isInside(y literal) bool {
	order := ratio.Cmp(x.of.Bound, y.of.Bound)
	if x.denied {
		order = -order
	}
	return x.denied == y.denied && isWithin(order, y.isStrict() && !x.isStrict())
}

// isWithin tells whether a number is at most another one, or (strict) below it, by how the two are ordered.
func isWithin(order int, strict bool) bool {
	return order < 0 || order == 0 && !strict
}

func (x literal) text() string {
	switch {
	case x.of.Name != "" && x.denied:
		return "not " + x.of.Name
	case x.of.Name != "":
		return strings.Clone(x.of.Name)
	case len(x.of.Form) > 0:
		return linear.Text(x.of.Form) + " " + x.sign() + " " + ratio.Text(x.of.Bound)
	case x.denied:
		return "false"
	}
	return "true"
}

// sign is what stands between the form and the bound.
func (x literal) sign() string {
	switch {
	case x.denied && x.of.Strict:
		return ">="
	case x.denied:
		return ">"
	case x.of.Strict:
		return "<"
	}
	return "<="
}

// truthOf is the truth that the first one of the bindings with a name gives it.
func truthOf(name string, l []api.Binding) (bool, api.Errno) {
	for _, b := range l {
		if b.Name != name {
			continue
		}
		if b.Value.Sort != api.SortBool {
			return false, api.ErrValue
		}
		return b.Value.Bool, api.OK
	}
	return false, api.ErrValue
}
