package simplify

import "fulcrum/api"

// term is a term of a bank; there is a type for each sort of thing that it can be.
type term interface {
	kids() []int
}

// family is the kids of a term, by their numbers.
type family []int

func (f family) kids() []int {
	return f
}

type constant struct {
	family
	real bool
}

type number struct {
	family
	value api.Rat
}

type negation struct{ family }

// connective is a TermAnd or a TermOr.
type connective struct {
	family
	or bool
}

type exclusion struct{ family }

type implication struct{ family }

type choice struct {
	family
	real bool
}

type equality struct{ family }

type distinction struct{ family }

// comparison is a TermLess (strict) or a TermAtMost.
type comparison struct {
	family
	strict bool
}

type sum struct{ family }

type scale struct {
	family
	times api.Rat
}

func (x truth) kids() []int {
	return nil
}

// termOf is a bank's term as what it is.
func termOf(t api.Term) term {
	f := family(t.Kids)
	switch t.Kind {
	case api.TermName:
		return constant{real: t.Sort == api.SortReal}
	case api.TermNumber:
		return number{value: t.Number}
	case api.TermNot:
		return negation{f}
	case api.TermAnd, api.TermOr:
		return connective{family: f, or: t.Kind == api.TermOr}
	case api.TermXor:
		return exclusion{f}
	case api.TermImplies:
		return implication{f}
	case api.TermIte:
		return choice{family: f, real: t.Sort == api.SortReal}
	case api.TermEqual:
		return equality{f}
	case api.TermDistinct:
		return distinction{f}
	case api.TermLess, api.TermAtMost:
		return comparison{family: f, strict: t.Kind == api.TermLess}
	case api.TermAdd:
		return sum{f}
	case api.TermScale:
		return scale{family: f, times: t.Number}
	}
	return truth(t.Kind == api.TermTrue)
}

func isReal(t term) bool {
	switch x := t.(type) {
	case constant:
		return x.real
	case choice:
		return x.real
	case number, sum, scale:
		return true
	}
	return false
}
