// Package keys writes atoms as bytes, by which maps find them again.
package keys

import "fulcrum/api"

// The first byte of a key.
const (
	keyConstant = iota
	keyAtMost
	keyUnder
)

// WithAtom appends the key of an atom that may be (layer 17). Two such atoms have one key just if they are alike: each has one way to be written, limbs come behind their number, and the parts, of which each tells where it ends, come last.
func WithAtom(key []byte, a api.Atom) []byte {
	if a.Name != "" {
		return append(append(key, keyConstant), a.Name...)
	}
	if a.Strict {
		key = append(key, keyUnder)
	} else {
		key = append(key, keyAtMost)
	}
	key = withRat(key, a.Bound)
	for _, part := range a.Form {
		key = withRat(withNumber(key, uint64(part.Var)), part.Coef)
	}
	return key
}

func withRat(key []byte, r api.Rat) []byte {
	if r.Num.Neg {
		key = append(key, 1)
	} else {
		key = append(key, 0)
	}
	return withLimbs(withLimbs(key, r.Num.Abs), r.Den)
}

func withLimbs(key []byte, n api.Nat) []byte {
	key = withNumber(key, uint64(len(n)))
	for _, limb := range n {
		key = withNumber(key, uint64(limb))
	}
	return key
}

// withNumber appends seven bits a byte, the lowest ones first; all but the last byte have the highest bit set.
func withNumber(key []byte, n uint64) []byte {
	const more = 1 << 7
	for n >= more {
		key = append(key, byte(n)|more)
		n >>= 7
	}
	return append(key, byte(n))
}
