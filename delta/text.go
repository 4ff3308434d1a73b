package delta

import (
	"strings"

	"fulcrum/api"
	"fulcrum/ratio"
)

const (
	plus   = "+"
	signs  = "+-"
	letter = "d"
	nought = "0"
)

// Text is its text.
func Text(d api.Delta) string {
	text := ratio.Text(d.A)
	switch ratio.Sign(d.B) {
	case 1:
		text += plus + ratio.Text(d.B) + letter
	case -1:
		text += ratio.Text(d.B) + letter // a `-` stands ahead of it as it is
	}
	return text
}

// Parse reads it.
func Parse(s string) (api.Delta, api.Errno) {
	ahead, behind := cut(s)
	a, e := ratio.Parse(ahead)
	b, f := ratio.Parse(behind)
	d := api.Delta{A: a, B: b}
	// Layer 3 takes more than one text of a number; here each number has one.
	if e != api.OK || f != api.OK || Text(d) != s {
		return api.Delta{}, api.ErrDelta
	}
	return d, api.OK
}

// cut is the texts that layer 3 may read as the two parts, if s is a number's text.
func cut(s string) (ahead, behind string) {
	body, ok := strings.CutSuffix(s, letter)
	if !ok {
		return s, nought
	}
	at := max(strings.LastIndexAny(body, signs), 0)
	return body[:at], strings.TrimPrefix(body[at:], plus)
}
