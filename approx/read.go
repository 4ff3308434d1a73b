package approx

import (
	"strconv"
	"strings"

	"fulcrum/api"
	"fulcrum/nat"
)

const (
	ten    = 10
	minus  = "-"
	plus   = "+"
	point  = "."
	nought = "0"
)

// Read is the float that is nearest to a decimal text.
func Read(s string) (float64, api.Errno) {
	if len(s) > api.MaxPlaces {
		return 0, api.ErrLong
	}
	text, below := strings.CutPrefix(s, minus)
	digits, exponent, ok := decimal(text)
	if !ok {
		return 0, api.ErrFloat
	}
	f := Nearest(scaled(digits, exponent))
	if below {
		return -f, api.OK // so that 0 becomes -0
	}
	return f, api.OK
}

// decimal is what a text without a sign says: its digits, times 10 to the exponent.
func decimal(text string) (digits string, exponent int, ok bool) {
	if i := strings.IndexAny(text, "eE"); i >= 0 {
		exponent, ok = power(text[i+1:])
		if !ok {
			return "", 0, false
		}
		text = text[:i]
	}
	ahead, behind, pointed := strings.Cut(text, point)
	if !isDigits(ahead) || pointed && !isDigits(behind) {
		return "", 0, false
	}
	return ahead + behind, exponent - len(behind), true
}

// power is what stands behind an e.
func power(text string) (int, bool) {
	digits, below := strings.CutPrefix(text, minus)
	if !below {
		digits = strings.TrimPrefix(digits, plus)
	}
	if !isDigits(digits) {
		return 0, false
	}
	n, err := strconv.Atoi(digits)
	if err != nil || n > api.MaxExp {
		return 0, false
	}
	if below {
		return -n, true
	}
	return n, true
}

func isDigits(text string) bool {
	return text != "" && strings.Trim(text, "0123456789") == ""
}

// scaled is the number of digits times 10 to the exponent; not in lowest terms.
func scaled(digits string, exponent int) api.Rat {
	return api.Rat{
		Num: api.Int{Abs: natural(digits + noughts(exponent))},
		Den: natural("1" + noughts(-exponent)),
	}
}

// natural is the number of digits, of which needless noughts may stand ahead; of noughts alone no text is left, and no number but 0 comes of that.
func natural(digits string) api.Nat {
	out, _ := nat.Parse(strings.TrimLeft(digits, nought), ten)
	return out
}

func noughts(n int) string {
	return strings.Repeat(nought, max(n, 0))
}
