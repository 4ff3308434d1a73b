package clauses

import (
	"cmp"
	"math"
	"slices"

	"fulcrum/api"
)

// isLiteral: the least int has no opposite.
func isLiteral(lit int) bool {
	return lit != 0 && lit != math.MinInt
}

func areLiterals(c api.Clause) bool {
	return !slices.ContainsFunc(c, func(lit int) bool { return !isLiteral(lit) })
}

// atomOf is a literal's atom.
func atomOf(lit int) int {
	return max(lit, -lit)
}

// areUpTo tells whether no literal's atom is above a number.
func areUpTo(c api.Clause, atoms int) bool {
	return !slices.ContainsFunc(c, func(lit int) bool { return atomOf(lit) > atoms })
}

// tidy makes literals a normal clause, in the memory that they have.
func tidy(c api.Clause) api.Clause {
	slices.SortFunc(c, byAtom)
	return slices.Compact(c)
}

func byAtom(a, b int) int {
	return cmp.Or(cmp.Compare(atomOf(a), atomOf(b)), cmp.Compare(b, a))
}

// hasBoth tells whether a normal clause has both literals of an atom.
func hasBoth(c api.Clause) bool {
	for i := 1; i < len(c); i++ {
		if c[i-1] == -c[i] {
			return true
		}
	}
	return false
}

// without is a clause's other literals, in new memory.
func without(c api.Clause, lit int) api.Clause {
	return slices.DeleteFunc(slices.Clone(c), func(l int) bool { return l == lit })
}

// isTrue tells whether values make a clause true; where there is none it is false.
func isTrue(c api.Clause, values []bool) bool {
	return slices.ContainsFunc(c, func(lit int) bool {
		atom := atomOf(lit)
		value := atom < len(values) && values[atom]
		return value == (lit > 0)
	})
}
