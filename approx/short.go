package approx

import (
	"math"
	"strconv"
	"strings"

	"fulcrum/api"
	"fulcrum/nat"
)

// Short is the shortest decimal text that Read gives back as the same float.
func Short(f float64) (string, api.Errno) {
	if e := finite(f); e != api.OK {
		return "", e
	}
	text := nought
	if f != 0 {
		text = shortest(math.Abs(f))
	}
	if math.Signbit(f) {
		return minus + text, api.OK
	}
	return text, api.OK
}

// shortest is the text of a finite f above 0. Of the numbers with so many digits only the two around f are looked at: if one farther off is read as f, so is the one on its way.
func shortest(f float64) string {
	w := begun(f)
	for {
		w.tellDigit()
		missing, _ := nat.Sub(w.one, w.rest)
		low, high := w.reads(w.rest, w.below), w.reads(missing, w.above)
		order := nat.Cmp(w.rest, missing)
		lowFirst := order < 0 || order == 0 && w.told%2 == 0
		switch {
		case low && (lowFirst || !high):
			return w.text(w.told)
		case high:
			return w.text(w.told + 1)
		}
	}
}

// written is a float of which the first digits are told: it is told and rest/one together, times 10 to the exponent.
type written struct {
	told         uint64
	exponent     int
	rest, one    api.Nat
	below, above api.Nat // how far off, measured as rest is, numbers on each side are read as it
	closed       bool    // those just so far off too
}

// begun has no digit told yet, and the first one to be told is not 0: the power of 10 is the least one above f.
func begun(f float64) written {
	m, exp := apart(f)
	// However the logarithm was rounded, this is that power's exponent or too low.
	exponent := int(math.Floor(math.Log10(f)))
	quarter := nat.Mul(higher(nat.Of(1), exp-2), tens(-exponent))
	w := written{
		exponent: exponent,
		rest:     nat.Mul(nat.Of(4*m), quarter),
		one:      nat.Mul(higher(nat.Of(1), 2-exp), tens(exponent)),
		below:    nat.Add(quarter, quarter),
		above:    nat.Add(quarter, quarter),
		closed:   m%2 == 0,
	}
	if m == lead && exp > leastExp {
		w.below = quarter // the floats below a power of 2 lie twice as near to one another
	}
	for nat.Cmp(w.rest, w.one) >= 0 {
		w.one = tenfold(w.one)
		w.exponent++
	}
	return w
}

// tellDigit tells one digit more.
func (w *written) tellDigit() {
	digit, rest, _ := nat.Div(tenfold(w.rest), w.one)
	d, _ := nat.Small(digit)
	w.told = w.told*ten + d
	w.exponent--
	w.rest, w.below, w.above = rest, tenfold(w.below), tenfold(w.above)
}

// reads tells whether a number that is so far off, on the side of that reach, is read as the float.
func (w *written) reads(off, reach api.Nat) bool {
	order := nat.Cmp(off, reach)
	return order < 0 || order == 0 && w.closed
}

// text is that of digits which stand where the told ones do.
func (w *written) text(digits uint64) string {
	all := strconv.FormatUint(digits, ten)
	text := all[:1]
	if behind := strings.TrimRight(all[1:], nought); behind != "" {
		text += point + behind
	}
	return text + "e" + strconv.Itoa(w.exponent+len(all)-1)
}

func tenfold(n api.Nat) api.Nat {
	return nat.Mul(n, nat.Of(ten))
}

// tens is 10 to the n-th, n of the size of a float's exponent; 1, if n is below 0.
func tens(n int) api.Nat {
	out, _ := nat.Pow(nat.Of(ten), max(n, 0))
	return out
}
