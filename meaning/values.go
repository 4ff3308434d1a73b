package meaning

import (
	"slices"

	"fulcrum/api"
	"fulcrum/ratio"
)

// named finds the values of names in a list that somebody else owns.
type named struct {
	list  []api.Binding
	first map[string]int // of each name the first place that has it
}

func namedBy(l []api.Binding) named {
	out := named{list: l, first: map[string]int{}}
	for i, b := range slices.Backward(l) {
		out.first[b.Name] = i
	}
	return out
}

// find is a name's value, as it was handed in, if it has one.
func (n named) find(name string) (api.Value, bool) {
	i, ok := n.first[name]
	if !ok {
		return api.Value{}, false
	}
	return n.list[i].Value, true
}

// hasAll tells whether each of the constants has a value of its sort.
func (n named) hasAll(constants []api.Param) bool {
	for _, c := range constants {
		if v, ok := n.find(c.Name); !ok || v.Sort != c.Sort {
			return false
		}
	}
	return true
}

// answer is a value as answers have it.
func answer(v api.Value) api.Value {
	switch v.Sort {
	case api.SortBool:
		return truth(v.Bool)
	case api.SortReal:
		return number(ratio.Norm(v.Real))
	}
	return api.Value{Sort: v.Sort}
}

func truth(b bool) api.Value {
	return api.Value{Sort: api.SortBool, Bool: b}
}

func number(r api.Rat) api.Value {
	return api.Value{Sort: api.SortReal, Real: r}
}

// values are those of the terms that are asked for; the parts are all that stands in them.
func (p parts) values(asked []int, n named) (map[int]api.Value, api.Errno) {
	if !n.hasAll(p.constants()) {
		return nil, api.ErrValue
	}
	table, rising := rules(), p.rising()
	last := p.lastParents(rising, asked)
	s := scope{named: n, kids: map[int]api.Value{}}
	for _, t := range rising {
		s.kids[t] = table[p[t].Kind].value(p[t], s)
		for _, kid := range p[t].Kids {
			if last[kid] == t { // numbers that grow from term to term would take too much room together
				delete(s.kids, kid)
			}
		}
	}
	return s.kids, api.OK
}
