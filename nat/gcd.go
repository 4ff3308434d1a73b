package nat

import (
	"math/bits"

	"fulcrum/api"
)

// Gcd is the greatest common divisor.
func Gcd(a, b api.Nat) api.Nat {
	x, y := Norm(a), Norm(b)
	if Cmp(x, y) < 0 {
		x, y = y, x
	}
	for len(y) > 2 {
		x, y = gcdStep(x, y)
	}
	if len(y) > 0 && len(x) > 2 {
		x, y = euclidStep(x, y)
	}
	if len(y) == 0 {
		return x
	}
	return Of(gcdOfWords(word(x), word(y)))
}

func gcdOfWords(x, y uint64) uint64 {
	for y != 0 {
		x, y = y, x%y
	}
	return x
}

func euclidStep(x, y api.Nat) (api.Nat, api.Nat) {
	_, r, _ := Div(x, y)
	return y, r
}

// gcdStep is many of Euclid's steps at once (Lehmer's way), for x not below y, y of three limbs or more.
func gcdStep(x, y api.Nat) (api.Nat, api.Nat) {
	s := gcdSteps(highWords(x, y))
	if s.x.ofY == 0 { // the highest bits did not tell one step
		return euclidStep(x, y)
	}
	if s.even {
		return timesLess(x, s.x.ofX, y, s.x.ofY), timesLess(y, s.y.ofY, x, s.y.ofX)
	}
	return timesLess(y, s.x.ofY, x, s.x.ofX), timesLess(x, s.y.ofX, y, s.y.ofY)
}

// shares is how often the old x and the old y are taken in a new number: the one counts for it, the other one against.
type shares struct{ ofX, ofY uint64 }

// steps is what so many of Euclid's steps make of x and y. After an even number of them the old x counts for the new x, and the old y for the new y; after an odd one the other way round.
type steps struct {
	x, y shares
	even bool
}

// gcdSteps takes the steps that are the same for all numbers with these highest bits. Collins' condition tells them one step late, so s stays one step behind; it also keeps all shares below 2^32.
func gcdSteps(x, y uint64) steps {
	s := steps{y: shares{ofX: 1}}
	ahead := shares{ofY: 1}
	for y >= ahead.ofY && x-y >= s.y.ofY+ahead.ofY {
		q := x / y
		x, y = y, x%y
		s.x, s.y, ahead = s.y, ahead, shares{s.y.ofX + q*ahead.ofX, s.y.ofY + q*ahead.ofY}
		s.even = !s.even
	}
	return s
}

// highWords is the 64 highest bits of x, which has three limbs or more, and y's bits at the same places.
func highWords(x, y api.Nat) (uint64, uint64) {
	up := bits.LeadingZeros32(x[len(x)-1])
	return wordAt(x, len(x), up), wordAt(y, len(x), up)
}

// wordAt is the 64 bits of x that begin up bits below the end of its first end limbs.
func wordAt(x api.Nat, end, up int) uint64 {
	return (limb(x, end-1)<<limbBits|limb(x, end-2))<<up | limb(x, end-3)>>(limbBits-up)
}

// limb is x's i-th limb, 0 behind its end.
func limb(x api.Nat, i int) uint64 {
	if i >= len(x) {
		return 0
	}
	return uint64(x[i])
}

// timesLess is m times x less n times y, which must not be below 0; m and n are below 2^32.
func timesLess(x api.Nat, m uint64, y api.Nat, n uint64) api.Nat {
	out := make(api.Nat, max(len(x), len(y)))
	more, less := uint64(0), uint64(0)
	for i := range len(out) {
		more += limb(x, i) * m
		less += limb(y, i) * n
		taken := uint32(less)
		less >>= limbBits
		if uint32(more) < taken {
			less++
		}
		out[i] = uint32(more) - taken
		more >>= limbBits
	}
	return trim(out)
}
