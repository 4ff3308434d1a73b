package ratio

import (
	"strings"

	"fulcrum/api"
	"fulcrum/nat"
	"fulcrum/whole"
)

const (
	ten    = 10
	minus  = "-"
	slash  = "/"
	point  = "."
	nought = "0"
)

// Text is its text.
func Text(r api.Rat) string {
	n := Norm(r)
	if isOne(n.Den) {
		return whole.Text(n.Num)
	}
	return whole.Text(n.Num) + slash + digits(n.Den)
}

// Script is its text in a script.
func Script(r api.Rat) string {
	n := Norm(r)
	switch {
	case n.Num.Neg:
		return "(- " + Script(Neg(n)) + ")"
	case isOne(n.Den):
		return digits(n.Num.Abs) + ".0"
	}
	return "(/ " + digits(n.Num.Abs) + ".0 " + digits(n.Den) + ".0)"
}

// Decimal is it rounded to decimal places.
func Decimal(r api.Rat, places int) (string, api.Errno) {
	if places < 0 || places > api.MaxPlaces {
		return "", api.ErrPlaces
	}
	f := read(r)
	f.num = whole.Mul(f.num, api.Int{Abs: power(places)})
	m := nearest(f)
	text := pointed(digits(m.Abs), places)
	if m.Neg {
		return minus + text, api.OK
	}
	return text, api.OK
}

// nearest is the whole number nearest to f, whose den is above 0; of two the even one.
func nearest(f fraction) api.Int {
	down, left, _ := whole.Floor(f.num, f.den)
	half := whole.Cmp(whole.Add(left, left), f.den)
	if half > 0 || half == 0 && nat.Bit(down.Abs, 0) {
		return whole.Add(down, whole.Of(1))
	}
	return down
}

// pointed has so many digits behind a point, and one ahead of it at least.
func pointed(text string, places int) string {
	text = strings.Repeat(nought, max(places+1-len(text), 0)) + text
	if places == 0 {
		return text
	}
	cut := len(text) - places
	return text[:cut] + point + text[cut:]
}

// Parse reads a number's text.
func Parse(s string) (api.Rat, api.Errno) {
	text, below := strings.CutPrefix(s, minus)
	num, den, e := parts(text)
	if e != api.OK {
		return api.Rat{}, api.ErrRat
	}
	return lowest(fraction{api.Int{Neg: below, Abs: num}, api.Int{Abs: den}}), api.OK
}

// parts is the two parts of a fraction that a text without a sign says.
func parts(text string) (api.Nat, api.Nat, api.Errno) {
	if ahead, behind, ok := strings.Cut(text, slash); ok {
		return quotient(ahead, behind)
	}
	if ahead, behind, ok := strings.Cut(text, point); ok {
		return decimal(ahead, behind)
	}
	return quotient(text, "1")
}

func quotient(ahead, behind string) (api.Nat, api.Nat, api.Errno) {
	num, e := nat.Parse(ahead, ten)
	den, f := nat.Parse(behind, ten)
	if e != api.OK || f != api.OK || nat.Bits(den) == 0 {
		return nil, nil, api.ErrRat
	}
	return num, den, api.OK
}

func decimal(ahead, behind string) (api.Nat, api.Nat, api.Errno) {
	num, e := nat.Parse(ahead, ten)
	// With a digit ahead no nought is a needless one.
	above, f := nat.Parse("1"+behind, ten)
	if e != api.OK || f != api.OK || behind == "" {
		return nil, nil, api.ErrRat
	}
	den := power(len(behind))
	part, _ := nat.Sub(above, den)
	return nat.Add(nat.Mul(num, den), part), den, api.OK
}

// power is 10 to the n-th, for any n: layer 1's powers have a limit, its texts have none.
func power(n int) api.Nat {
	out, _ := nat.Parse("1"+strings.Repeat(nought, n), ten)
	return out
}

func digits(n api.Nat) string {
	text, _ := nat.Text(n, ten)
	return text
}

// isOne is asked of a normal number.
func isOne(n api.Nat) bool {
	return len(n) == 1 && n[0] == 1
}
