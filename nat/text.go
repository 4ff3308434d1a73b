package nat

import "fulcrum/api"

const (
	leastBase    = 2
	greatestBase = 16
)

var digits = [greatestBase]byte{'0', '1', '2', '3', '4', '5', '6', '7', '8', '9', 'a', 'b', 'c', 'd', 'e', 'f'}

// Text is its digits.
func Text(a api.Nat, base int) (string, api.Errno) {
	if !isBase(base) {
		return "", api.ErrBase
	}
	x := trim(a)
	s := scaleOf(base)
	for Cmp(x, s.next) >= 0 {
		s.grow()
	}
	out := make([]byte, s.width<<len(s.powers))
	s.write(out, x, len(s.powers))
	return string(out[noughtsAhead(out):]), api.OK
}

// Parse reads digits.
func Parse(s string, base int) (api.Nat, api.Errno) {
	if !isBase(base) {
		return nil, api.ErrBase
	}
	if !isText(s, base) {
		return nil, api.ErrDigit
	}
	by := scaleOf(base)
	for by.width<<len(by.powers) < len(s) {
		by.grow()
	}
	return by.read(s, len(by.powers)), api.OK
}

func isBase(base int) bool {
	return leastBase <= base && base <= greatestBase
}

func isText(s string, base int) bool {
	if s == "" || len(s) > 1 && s[0] == digits[0] {
		return false
	}
	for i := range len(s) {
		if digitOf(s[i], base) == base {
			return false
		}
	}
	return true
}

// digitOf is what a digit stands for; base itself, if it is none.
func digitOf(c byte, base int) int {
	for v := range base {
		if digits[v] == c {
			return v
		}
	}
	return base
}

// noughtsAhead leaves the last digit, so that 0 has one.
func noughtsAhead(out []byte) int {
	n := 0
	for n < len(out)-1 && out[n] == digits[0] {
		n++
	}
	return n
}

// scale is for cutting digits in halves again and again, as that needs few divisions and products, and those of long numbers:
// width is how many digits one limb has room for, powers[i] is base to the width times 2^i, and next the power that comes behind them.
type scale struct {
	base   int
	width  int
	powers []api.Nat
	next   api.Nat
}

func scaleOf(base int) scale {
	width, power := 1, uint64(base)
	for power*uint64(base)>>limbBits == 0 {
		width++
		power *= uint64(base)
	}
	return scale{base: base, width: width, next: Of(power)}
}

func (s *scale) grow() {
	s.powers = append(s.powers, s.next)
	s.next = Mul(s.next, s.next)
}

// write fills out, which has width times 2^n digits, with those of x, noughts ahead of them.
func (s *scale) write(out []byte, x api.Nat, n int) {
	if n == 0 {
		s.writeLimb(out, word(x))
		return
	}
	high, low, _ := Div(x, s.powers[n-1])
	s.write(out[:len(out)/2], high, n-1)
	s.write(out[len(out)/2:], low, n-1)
}

func (s *scale) writeLimb(out []byte, v uint64) {
	for i := len(out) - 1; i >= 0; i-- {
		out[i] = digits[v%uint64(s.base)]
		v /= uint64(s.base)
	}
}

// read is the number of at most width times 2^n digits.
func (s *scale) read(text string, n int) api.Nat {
	if n == 0 {
		return s.readLimb(text)
	}
	cut := len(text) - s.width<<(n-1)
	if cut <= 0 {
		return s.read(text, n-1)
	}
	high, low := s.read(text[:cut], n-1), s.read(text[cut:], n-1)
	return Add(Mul(high, s.powers[n-1]), low)
}

func (s *scale) readLimb(text string) api.Nat {
	v := uint64(0)
	for i := range len(text) {
		v = v*uint64(s.base) + uint64(digitOf(text[i], s.base))
	}
	return Of(v)
}
