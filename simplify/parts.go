package simplify

import (
	"cmp"
	"maps"
	"slices"

	"fulcrum/api"
	"fulcrum/terms"
)

// nobody is no term's number.
const nobody = -1

// parts are a term and all that stands in it, by their numbers.
type parts map[int]term

func partsOf(b *terms.Bank, t int) (parts, api.Errno) {
	if t < 0 || t >= b.Len() {
		return nil, api.ErrTerm
	}
	out := parts{}
	open := []int{t}
	for len(open) > 0 {
		t := open[len(open)-1]
		open = open[:len(open)-1]
		if _, ok := out[t]; !ok {
			said, _ := b.Get(t)
			out[t] = termOf(said)
			open = append(open, said.Kids...)
		}
	}
	return out, api.OK
}

// rising are their numbers: kids stand ahead of what they are kids of.
func (p parts) rising() []int {
	return slices.Sorted(maps.Keys(p))
}

// under is one of them and all that stands in it, by falling numbers.
func (p parts) under(t int) []int {
	seen := map[int]struct{}{t: {}}
	out := []int{t}
	for i := 0; i < len(out); i++ {
		for _, kid := range p[out[i]].kids() {
			if _, ok := seen[kid]; !ok {
				seen[kid] = struct{}{}
				out = append(out, kid)
			}
		}
	}
	slices.SortFunc(out, func(a, b int) int { return cmp.Compare(b, a) })
	return out
}

func (p parts) arePure() bool {
	for _, x := range p {
		if isRealChoice(x) {
			return false
		}
	}
	return true
}

func isRealChoice(t term) bool {
	x, ok := t.(choice)
	return ok && x.real
}

// comparesReals tells whether the kids of a term of Bool are of Real.
func (p parts) comparesReals(t term) bool {
	switch x := t.(type) {
	case comparison:
		return true
	case equality:
		return isReal(p[x.family[0]])
	case distinction:
		return isReal(p[x.family[0]])
	}
	return false
}

// mostCompared is a bound on the comparisons that are counted, so that a weight is a number that an int can be.
const mostCompared = 1 << 32

// weight is what chapter 27 calls so.
func (p parts) weight() int {
	limbs, amounts, compared := 0, 0, 0
	for _, t := range p {
		switch x := t.(type) {
		case number:
			limbs += limbsOf(x.value)
		case scale:
			limbs += limbsOf(x.times)
		case constant, choice:
			if isReal(x) {
				amounts++
			}
		case comparison:
			compared++
		case equality:
			if p.comparesReals(x) {
				compared += 2
			}
		case distinction:
			if many := len(x.family); p.comparesReals(x) {
				compared += min(many*(many-1), mostCompared)
			}
		}
	}
	return len(p) + limbs + min(compared, mostCompared)*(amounts+4)
}

func limbsOf(r api.Rat) int {
	return len(r.Num.Abs) + len(r.Den)
}
