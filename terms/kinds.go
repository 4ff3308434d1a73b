package terms

import (
	"math"

	"fulcrum/api"
)

const many = math.MaxInt

// shape is what a kind of terms asks of its kids, and what it is itself. Kids of SortNone are of any sort, but all of the same; a term of SortNone has its last kid's sort.
type shape struct {
	least, most int
	kids        int
	sort        int
}

var shapes = [...]shape{
	api.TermTrue:     {0, 0, api.SortNone, api.SortBool},
	api.TermFalse:    {0, 0, api.SortNone, api.SortBool},
	api.TermName:     {0, 0, api.SortNone, api.SortNone},
	api.TermNumber:   {0, 0, api.SortNone, api.SortReal},
	api.TermNot:      {1, 1, api.SortBool, api.SortBool},
	api.TermAnd:      {2, many, api.SortBool, api.SortBool},
	api.TermOr:       {2, many, api.SortBool, api.SortBool},
	api.TermXor:      {2, 2, api.SortBool, api.SortBool},
	api.TermImplies:  {2, 2, api.SortBool, api.SortBool},
	api.TermIte:      {3, 3, api.SortNone, api.SortNone},
	api.TermEqual:    {2, 2, api.SortNone, api.SortBool},
	api.TermDistinct: {2, many, api.SortNone, api.SortBool},
	api.TermLess:     {2, 2, api.SortReal, api.SortBool},
	api.TermAtMost:   {2, 2, api.SortReal, api.SortBool},
	api.TermAdd:      {2, many, api.SortReal, api.SortReal},
	api.TermScale:    {1, 1, api.SortReal, api.SortReal},
}

func isKind(kind int) bool {
	return api.TermNone < kind && kind < len(shapes)
}

func isSort(sort int) bool {
	return sort == api.SortBool || sort == api.SortReal
}

// takes tells whether there may be so many kids.
func (s shape) takes(kids int) bool {
	return s.least <= kids && kids <= s.most
}

// sortsFit tells whether each kid has the sort that a term of that kind asks for.
func sortsFit(kind int, kids []int, sort func(kid int) int) bool {
	if kind == api.TermIte {
		if sort(kids[0]) != api.SortBool {
			return false
		}
		kids = kids[1:]
	}
	for _, kid := range kids {
		asked := shapes[kind].kids
		if asked == api.SortNone {
			asked = sort(kids[0])
		}
		if sort(kid) != asked {
			return false
		}
	}
	return true
}

// sortBy is the sort of a term of that kind with these kids; SortNone of a name, which its constant tells.
func sortBy(kind int, kids []int, sort func(kid int) int) int {
	if kind == api.TermIte {
		return sort(kids[len(kids)-1])
	}
	return shapes[kind].sort
}
