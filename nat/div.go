package nat

import (
	"math/bits"

	"fulcrum/api"
)

// Div is the quotient and what is left.
func Div(a, b api.Nat) (api.Nat, api.Nat, api.Errno) {
	x, y := trim(a), trim(b)
	if len(y) == 0 {
		return nil, nil, api.ErrZero
	}
	if Cmp(x, y) < 0 {
		return nil, Norm(x), api.OK
	}
	if len(y) == 1 {
		q, r := divByLimb(x, y[0])
		return q, r, api.OK
	}
	q, r := divByLimbs(x, y)
	return q, r, api.OK
}

func divByLimb(x api.Nat, y uint32) (api.Nat, api.Nat) {
	q := make(api.Nat, len(x))
	left := uint64(0)
	for i := len(x) - 1; i >= 0; i-- {
		t := left<<limbBits | uint64(x[i])
		q[i] = uint32(t / uint64(y))
		left = t % uint64(y)
	}
	return trim(q), Of(left)
}

// divByLimbs is Knuth's algorithm D. With y's highest bit made 1 a limb of the quotient is guessed from the highest limbs, at most one too much.
func divByLimbs(x, y api.Nat) (api.Nat, api.Nat) {
	up := bits.LeadingZeros32(y[len(y)-1])
	d := make(api.Nat, len(y))
	shiftUp(d, y, up)
	left := make(api.Nat, len(x)+1)
	left[len(x)] = shiftUp(left[:len(x)], x, up)
	q := make(api.Nat, len(x)-len(y)+1)
	for i := len(q) - 1; i >= 0; i-- {
		q[i] = takeTimes(left[i:i+len(y)+1], d)
	}
	r := make(api.Nat, len(y))
	shiftDown(r, left[:len(y)], up)
	return trim(q), trim(r)
}

// takeTimes takes d from left as often as it goes, and answers how often. left has one limb more than d, and is below d times 2^32.
func takeTimes(left, d api.Nat) uint32 {
	m := guess(left, d)
	if m != 0 && subTimes(left, d, m) {
		m--
		addInto(left, d) // the carry out of the highest limb pays what was borrowed there
	}
	return m
}

// guess is how often d goes into left, or one more, by the three highest limbs of left and the two highest of d.
func guess(left, d api.Nat) uint32 {
	n := len(d)
	high := uint64(left[n])<<limbBits | uint64(left[n-1])
	m, rest := high/uint64(d[n-1]), high%uint64(d[n-1])
	for m>>limbBits != 0 || m*uint64(d[n-2]) > rest<<limbBits|uint64(left[n-2]) {
		m--
		rest += uint64(d[n-1])
		if rest>>limbBits != 0 {
			break
		}
	}
	return uint32(m)
}

// subTimes takes d from left m times, and tells whether that was too often; left is then 2^32 to its length too much.
func subTimes(left, d api.Nat, m uint32) bool {
	carry := uint64(0)
	for i := range len(d) {
		t := uint64(d[i])*uint64(m) + carry
		carry = t >> limbBits
		if left[i] < uint32(t) {
			carry++
		}
		left[i] -= uint32(t)
	}
	below := uint64(left[len(d)]) < carry
	left[len(d)] -= uint32(carry)
	return below
}

// shiftUp makes out x times 2^n, for n below 32, and answers the bits that have no room there.
func shiftUp(out, x api.Nat, n int) uint32 {
	carry := uint64(0)
	for i := range len(x) {
		t := uint64(x[i])<<n | carry
		out[i] = uint32(t)
		carry = t >> limbBits
	}
	return uint32(carry)
}

// shiftDown makes out x divided by 2^n, for n below 32, rounded down.
func shiftDown(out, x api.Nat, n int) {
	carry := uint64(0)
	for i := len(x) - 1; i >= 0; i-- {
		t := carry<<limbBits | uint64(x[i])
		out[i] = uint32(t >> n)
		carry = t & (1<<n - 1)
	}
}
