package whole

import (
	"strings"

	"fulcrum/api"
	"fulcrum/nat"
)

const (
	decimal = 10
	minus   = "-"
)

// Text is its decimal text.
func Text(a api.Int) string {
	digits, _ := nat.Text(a.Abs, decimal)
	if Sign(a) < 0 {
		return minus + digits
	}
	return digits
}

// Parse is the number of a decimal text.
func Parse(s string) (api.Int, api.Errno) {
	digits, below := strings.CutPrefix(s, minus)
	abs, e := nat.Parse(digits, decimal)
	if e != api.OK {
		return api.Int{}, e
	}
	if !below {
		return signed(abs), api.OK
	}
	if len(abs) == 0 { // 0 has no sign
		return api.Int{}, api.ErrDigit
	}
	return signed(abs, -1), api.OK
}
