package atoms

import (
	"fulcrum/api"
	"fulcrum/keys"
)

// places is where each atom of a table stands, by its key.
type places map[string]int

// placesOf is asked of any table.
func placesOf(l []api.Atom) (places, api.Errno) {
	if len(l) == 0 || len(l) > api.MaxTerms || !isTrueOne(l[0]) {
		return nil, api.ErrAtom
	}
	out, look := make(places, len(l)), looker{}
	var key []byte
	for i, a := range l {
		if i > 0 && !isConstant(a) && !look.isInequality(a) {
			return nil, api.ErrAtom
		}
		key = keys.WithAtom(key[:0], a)
		out[string(key)] = i
		if len(out) <= i { // one ahead is alike
			return nil, api.ErrAtom
		}
	}
	return out, api.OK
}

// with is the table with an atom, which is new memory, and its number.
func (p places) with(l []api.Atom, a api.Atom) ([]api.Atom, int, api.Errno) {
	if i, ok := p[string(keys.WithAtom(nil, a))]; ok {
		return copied(l), i + 1, api.OK
	}
	if len(l) == api.MaxTerms {
		return nil, 0, api.ErrFull
	}
	return append(copied(l), a), len(l) + 1, api.OK
}
