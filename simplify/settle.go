package simplify

import (
	"slices"

	"fulcrum/api"
)

// settled is what a formula comes to. Junctions may stand too deep in one another for calls in calls, so those that wait for others stand on a list.
func (n *normalizer) settled(f formula) formula {
	j, ok := f.(*junction)
	if !ok {
		return f
	}
	open := []*junction{j}
	for len(open) > 0 {
		last := len(open) - 1
		waits := n.look(open[last])
		if len(waits) == 0 {
			open = open[:last]
		}
		open = append(open, waits...)
	}
	return j.is
}

// look goes over all that a junction joins, through those of its own kind. It tells those of the other kind of which it must be known first what they come to; without any the junction is settled.
func (n *normalizer) look(j *junction) []*junction {
	if j.is != nil {
		return nil
	}
	n.looks++
	k := &kept{or: j.or, signs: map[int]int{}}
	var waits []*junction
	open := []*junction{j}
	for len(open) > 0 && !k.decided {
		next := open[len(open)-1]
		open = open[:len(open)-1]
		n.spend(len(next.parts))
		for i := range next.parts {
			part, ok := next.part(i).(*junction)
			switch {
			case !ok:
				k.keep(next.part(i))
			case part.seen == n.looks:
				continue
			case part.is != nil:
				n.spend(k.take(part.is))
			case part.or == j.or:
				open = append(open, part)
			default:
				waits = append(waits, part)
			}
			if ok {
				part.seen = n.looks
			}
		}
	}
	if len(waits) > 0 && !k.decided {
		return waits
	}
	j.is = n.joined(j, k)
	return nil
}

// joined is what a junction comes to of which that is left.
func (n *normalizer) joined(j *junction, k *kept) formula {
	switch {
	case k.decided:
		return truth(j.or)
	case len(k.kids) == 0:
		return truth(!j.or)
	case len(k.kids) == 1:
		return k.kids[0]
	}
	var numbers []int
	for _, kid := range k.kids {
		numbers = append(numbers, n.number(kid))
	}
	slices.Sort(numbers)
	kind := api.TermAnd
	if j.or {
		kind = api.TermOr
	}
	j.kids, j.term = k.kids, n.add(kind, numbers...)
	return j
}

// kept is what is left of a junction's parts: each once.
type kept struct {
	or      bool
	kids    []formula
	signs   map[int]int // of each term whether it is among them (1), its opposite is (2), or both are (3)
	decided bool        // one part, or two that are opposites, say all
}

// take keeps a settled formula, or of a junction of the same kind all kids: so many.
func (k *kept) take(f formula) int {
	if x, ok := f.(*junction); ok && x.or == k.or {
		for _, kid := range x.kids {
			k.keep(kid)
		}
		return len(x.kids)
	}
	k.keep(f)
	return 1
}

func (k *kept) keep(f formula) {
	if x, ok := f.(truth); ok {
		k.decided = k.decided || bool(x) == k.or
		return
	}
	term, sign := bare(f), 1
	if isNegated(f) {
		sign = 2
	}
	if k.signs[term]&sign == 0 {
		k.signs[term] |= sign
		k.kids = append(k.kids, f)
	}
	k.decided = k.decided || k.signs[term] == 3
}

// bare is the term of a settled formula that is no truth, without the TermNot that it may have.
func bare(f formula) int {
	switch x := f.(type) {
	case literal:
		return x.term
	case *junction:
		return x.term
	}
	return nobody
}

func isNegated(f formula) bool {
	x, ok := f.(literal)
	return ok && x.negated
}

// number is a formula's term.
func (n *normalizer) number(f formula) int {
	f = n.settled(f)
	switch x := f.(type) {
	case truth:
		if x {
			return n.add(api.TermTrue)
		}
		return n.add(api.TermFalse)
	case literal:
		if x.negated {
			return n.add(api.TermNot, x.term)
		}
	}
	return bare(f)
}
