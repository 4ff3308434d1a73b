package atoms

import "fulcrum/api"

// places is where each atom of a table stands, by its key.
type places map[string]int

// placesOf is asked of any table.
func placesOf(l []api.Atom) (places, api.Errno) {
	if len(l) == 0 || len(l) > api.MaxTerms || !isTrueOne(l[0]) {
		return nil, api.ErrAtom
	}
	out := make(places, len(l))
	var key []byte
	for i, a := range l {
		if i > 0 && !isConstant(a) && !isInequality(a) {
			return nil, api.ErrAtom
		}
		key = withAtom(key[:0], a)
		out[string(key)] = i
		if len(out) <= i { // one ahead is alike
			return nil, api.ErrAtom
		}
	}
	return out, api.OK
}

// with is the table with an atom, which is new memory, and its number.
func (p places) with(l []api.Atom, a api.Atom) ([]api.Atom, int, api.Errno) {
	if i, ok := p[string(withAtom(nil, a))]; ok {
		return copied(l), i + 1, api.OK
	}
	if len(l) == api.MaxTerms {
		return nil, 0, api.ErrFull
	}
	return append(copied(l), a), len(l) + 1, api.OK
}

// The first byte of a key.
const (
	keyConstant = iota
	keyAtMost
	keyUnder
)

// withAtom appends the key of an atom that may be. Two atoms have one key just if they are alike: each has one way to be written, limbs come behind their number, and the parts, of which each tells where it ends, come last.
func withAtom(key []byte, a api.Atom) []byte {
	if a.Name != "" {
		return append(append(key, keyConstant), a.Name...)
	}
	if a.Strict {
		key = append(key, keyUnder)
	} else {
		key = append(key, keyAtMost)
	}
	key = withRat(key, a.Bound)
	for _, part := range a.Form {
		key = withRat(withNumber(key, uint64(part.Var)), part.Coef)
	}
	return key
}

func withRat(key []byte, r api.Rat) []byte {
	if r.Num.Neg {
		key = append(key, 1)
	} else {
		key = append(key, 0)
	}
	return withLimbs(withLimbs(key, r.Num.Abs), r.Den)
}

func withLimbs(key []byte, n api.Nat) []byte {
	key = withNumber(key, uint64(len(n)))
	for _, limb := range n {
		key = withNumber(key, uint64(limb))
	}
	return key
}

// withNumber appends seven bits a byte, the lowest ones first; all but the last byte have the highest bit set.
func withNumber(key []byte, n uint64) []byte {
	const more = 1 << 7
	for n >= more {
		key = append(key, byte(n)|more)
		n >>= 7
	}
	return append(key, byte(n))
}
