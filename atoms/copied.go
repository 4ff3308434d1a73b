package atoms

import (
	"strings"

	"fulcrum/api"
)

// copied is a table in new memory, with room for one more atom.
func copied(l []api.Atom) []api.Atom {
	out := make([]api.Atom, len(l), len(l)+1)
	copy(out, l)
	for i, a := range out {
		out[i].Name = strings.Clone(a.Name)
		out[i].Form = copiedForm(a.Form)
		out[i].Bound = copiedRat(a.Bound)
	}
	return out
}

func copiedForm(f api.Form) api.Form {
	out := copiedList(f)
	for i, part := range out {
		out[i].Coef = copiedRat(part.Coef)
	}
	return out
}

func copiedRat(r api.Rat) api.Rat {
	r.Num.Abs = copiedList(r.Num.Abs)
	r.Den = copiedList(r.Den)
	return r
}

// copiedList is a list in new memory; what its elements hold is shared.
func copiedList[L ~[]T, T any](l L) L {
	out := make(L, len(l))
	copy(out, l)
	return out
}
