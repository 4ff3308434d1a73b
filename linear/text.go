package linear

import (
	"strconv"
	"strings"

	"fulcrum/api"
	"fulcrum/ratio"
)

const (
	plus   = "+"
	letter = "*x"
	nought = "0"
)

// Text is a form's text.
func Text(f api.Form) string {
	var parts []string
	for _, part := range Norm(f) {
		parts = append(parts, ratio.Text(part.Coef)+letter+strconv.Itoa(part.Var))
	}
	if len(parts) == 0 {
		return nought
	}
	return strings.Join(parts, plus)
}

// Parse is the form of a text.
func Parse(s string) (api.Form, api.Errno) {
	f, ok := read(s)
	// Layer 3 takes more than one text of a number, and parts may stand in any order; here each form has one text.
	if !ok || Text(f) != s {
		return nil, api.ErrForm
	}
	return f, api.OK
}

// read is the form that s says, if it is a form's text; of some other texts it makes a form too.
func read(s string) (api.Form, bool) {
	if s == nought {
		return nil, true
	}
	var out api.Form
	for _, text := range strings.Split(s, plus) {
		part, ok := readPart(text)
		if !ok {
			return nil, false
		}
		out = append(out, part)
	}
	return out, true
}

func readPart(text string) (api.Mono, bool) {
	ahead, behind, _ := strings.Cut(text, letter)
	c, e := ratio.Parse(ahead)
	v, err := strconv.Atoi(behind)
	return api.Mono{Var: v, Coef: c}, e == api.OK && err == nil
}
