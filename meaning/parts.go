package meaning

import (
	"cmp"
	"maps"
	"slices"

	"fulcrum/api"
	"fulcrum/terms"
)

// parts are terms and all that stands in them, by their numbers.
type parts map[int]api.Term

// partsOf goes over each term once, on a list of its own: terms may stand too deep in one another for calls in calls.
func partsOf(b *terms.Bank, l []int) (parts, api.Errno) {
	for _, t := range l {
		if t < 0 || t >= b.Len() {
			return nil, api.ErrTerm
		}
	}
	out := parts{}
	open := slices.Clone(l)
	for len(open) > 0 {
		t := open[len(open)-1]
		open = open[:len(open)-1]
		if _, ok := out[t]; !ok {
			out[t], _ = b.Get(t)
			open = append(open, out[t].Kids...)
		}
	}
	return out, api.OK
}

// constants are the constants among them, by rising names; those of one name by their sorts.
func (p parts) constants() []api.Param {
	var out []api.Param
	for _, t := range p {
		if t.Kind == api.TermName {
			out = append(out, api.Param{Name: t.Name, Sort: t.Sort})
		}
	}
	slices.SortFunc(out, func(a, b api.Param) int {
		return cmp.Or(cmp.Compare(a.Name, b.Name), cmp.Compare(a.Sort, b.Sort))
	})
	return out
}

// rising are their numbers: kids stand ahead of what they are kids of.
func (p parts) rising() []int {
	return slices.Sorted(maps.Keys(p))
}

// nobody is no term's number.
const nobody = -1

// lastParents tells of each kid the last term that needs its value; of those that are asked for it is nobody, as their values stay.
func (p parts) lastParents(rising, asked []int) map[int]int {
	out := map[int]int{}
	for _, t := range rising {
		for _, kid := range p[t].Kids {
			out[kid] = t
		}
	}
	for _, t := range asked {
		out[t] = nobody
	}
	return out
}
