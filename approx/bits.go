package approx

import (
	"math"

	"fulcrum/api"
	"fulcrum/nat"
	"fulcrum/ratio"
)

// A finite float is a whole number of at most mantissa bits times 2 to a power from leastExp to mostExp. But for its sign it is written down as one number, whose lower bits are those of the whole number without the highest one (lead), and whose upper ones count the powers: so the floats from 0 up to +Inf have the bits 0, 1, 2 and so on.
const (
	mantissa = 53
	lead     = 1 << (mantissa - 1)
	leastExp = -1074
	mostExp  = 971
	sign     = 1 << 63
	infinity = (mostExp - leastExp + 2) * lead
)

// apart is a finite float without its sign: m times 2 to the exp.
func apart(f float64) (m uint64, exp int) {
	bits := math.Float64bits(f) &^ sign
	if bits < lead {
		return bits, leastExp
	}
	return bits%lead + lead, int(bits/lead) - 1 + leastExp
}

// together is the bits of the float of which apart says m and exp.
func together(m uint64, exp int) uint64 {
	return uint64(exp-leastExp)*lead + m
}

// cut is where a number lies among the floats: its side of 0, the bits of the finite float that is nearest to it of those that are not farther from 0, and how much is left of it, measured by the way to the next float.
type cut struct {
	below bool
	bits  uint64
	rest  int
}

// What is left of a number.
const (
	none = iota
	less // than half of the way to the next float
	half
	more
)

// cutOff never needs lowest terms.
func cutOff(r api.Rat) cut {
	side := ratio.Sign(r)
	if side == 0 {
		return cut{}
	}
	num, den := r.Num.Abs, r.Den
	// The lengths tell the power but for 1: m comes out as long as it may be, or a bit longer.
	first := max(nat.Bits(num)-nat.Bits(den)-mantissa, leastExp)
	for exp := first; exp <= mostExp; exp++ {
		unit := higher(den, exp)
		units, left, _ := nat.Div(higher(num, -exp), unit)
		if m, _ := nat.Small(units); m < 2*lead {
			return cut{side < 0, together(m, exp), measured(left, unit)}
		}
	}
	return cut{side < 0, infinity - 1, more}
}

// measured is how much left is of unit.
func measured(left, unit api.Nat) int {
	if nat.Bits(left) == 0 {
		return none
	}
	return half + nat.Cmp(nat.Add(left, left), unit)
}

// float is where the number was cut off, or the next float farther from 0.
func (c cut) float(farther bool) float64 {
	bits := c.bits
	if farther {
		bits++
	}
	if c.below {
		bits |= sign
	}
	return math.Float64frombits(bits)
}

// higher is n times 2 to the exp, if exp is above 0; n otherwise.
func higher(n api.Nat, exp int) api.Nat {
	out, _ := nat.Shift(n, max(exp, 0))
	return out
}
