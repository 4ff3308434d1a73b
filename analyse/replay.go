package analyse

import (
	"cmp"
	"maps"
	"slices"

	"fulcrum/api"
)

// Replay is the clause that a chain of clauses leads to.
func Replay(clauses []api.Clause, chain []int) (api.Clause, api.Errno) {
	if len(chain) == 0 {
		return nil, api.ErrLearn
	}
	set := map[int]struct{}{}
	for i, n := range chain {
		if !isPlace(n, clauses) || slices.ContainsFunc(clauses[n], isNone) {
			return nil, api.ErrLearn
		}
		gone := 0 // of the first clause nothing is left out
		if i > 0 {
			gone = onlyClash(set, clauses[n])
			if gone == 0 {
				return nil, api.ErrLearn
			}
			delete(set, gone)
		}
		for _, lit := range clauses[n] {
			if lit != -gone {
				set[lit] = struct{}{}
			}
		}
	}
	return slices.SortedFunc(maps.Keys(set), byAtom), api.OK
}

// onlyClash is the one literal of a set that has its opposite in a clause, or 0, if there is none, or more than one.
func onlyClash(set map[int]struct{}, c api.Clause) int {
	found := 0
	for _, lit := range c {
		if _, is := set[-lit]; !is || found == -lit {
			continue
		}
		if found != 0 {
			return 0
		}
		found = -lit
	}
	return found
}

// byAtom is how literals are told: by rising atoms, of one atom the one above 0 first.
func byAtom(a, b int) int {
	return cmp.Or(cmp.Compare(atom(a), atom(b)), cmp.Compare(b, a))
}
