// Package nat is layer 1: natural numbers without a bound: see shared/doc/01-nat.md.
package nat

import (
	"math/bits"

	"fulcrum/api"
)

const limbBits = 32

// Norm is the number without zero limbs at its end.
func Norm(a api.Nat) api.Nat {
	x := trim(a)
	if len(x) == 0 {
		return nil
	}
	out := make(api.Nat, len(x))
	copy(out, x)
	return out
}

// Of is a number of 64 bits.
func Of(n uint64) api.Nat {
	return trim(api.Nat{uint32(n), uint32(n >> limbBits)})
}

// Small is the number, if it has at most 64 bits.
func Small(a api.Nat) (uint64, bool) {
	x := trim(a)
	if len(x) > 2 {
		return 0, false
	}
	return word(x), true
}

// Cmp is -1, 0 or 1: below, the same, above.
func Cmp(a, b api.Nat) int {
	x, y := trim(a), trim(b)
	if len(x) != len(y) {
		return order(len(x) < len(y))
	}
	for i := len(x) - 1; i >= 0; i-- {
		if x[i] != y[i] {
			return order(x[i] < y[i])
		}
	}
	return 0
}

// Bits is how many binary digits it has.
func Bits(a api.Nat) int {
	x := trim(a)
	if len(x) == 0 {
		return 0
	}
	return (len(x)-1)*limbBits + bits.Len32(x[len(x)-1])
}

// Bit is one of them, from the lowest on.
func Bit(a api.Nat, i int) bool {
	if i < 0 || i/limbBits >= len(a) {
		return false
	}
	return a[i/limbBits]>>(i%limbBits)&1 == 1
}

// trim shares a's memory: it is for reading an argument, or for what was made here and is handed out once.
// It leaves no spare room, so that nobody can come at the limbs behind the end.
func trim(a api.Nat) api.Nat {
	n := len(a)
	for n > 0 && a[n-1] == 0 {
		n--
	}
	if n == 0 {
		return nil
	}
	return a[:n:n]
}

func order(below bool) int {
	if below {
		return -1
	}
	return 1
}

// word is a number of at most two limbs.
func word(x api.Nat) uint64 {
	n := uint64(0)
	for i := range len(x) {
		n |= uint64(x[i]) << (limbBits * i)
	}
	return n
}
