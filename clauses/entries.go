package clauses

import (
	"strconv"

	"fulcrum/api"
	"fulcrum/atoms"
	"fulcrum/keys"
	"fulcrum/simplify"
)

// The atoms of a term have room for so many limbs, of which a part of a form takes some. What weighs at most MaxWeight never needs as much: C comparisons of V constants with L limbs have at most C V parts and C (2 V + L) limbs, and C (V + 4) + L is at most 2^14.
const (
	mostLimbs = 1 << 25
	partLimbs = 1 << 4
)

// entry is a term with the atom that stands for it.
type entry struct {
	term int
	atom api.Atom
}

// entries are those of the terms that are no truth and no opposite.
func (x *encoder) entries() ([]entry, api.Errno) {
	var out []entry
	limbs := 0
	for _, n := range x.rising {
		switch x.parts[n].Kind {
		case api.TermTrue, api.TermFalse, api.TermNot:
			continue
		}
		a := x.atom(n)
		limbs += limbsOf(a)
		if limbs > mostLimbs {
			return nil, api.ErrFull
		}
		out = append(out, entry{term: n, atom: a})
	}
	return out, api.OK
}

// atom is what a constant or a comparison is, and of another term its definition's.
func (x *encoder) atom(n int) api.Atom {
	t := x.parts[n]
	switch {
	case t.Kind == api.TermName:
		return named(t.Name)
	case isComparison(t): // in normal form it is what layer 17's Below makes of it, with its sign
		sum, _ := simplify.Affine(x.bank, t.Kids[0])
		at, _ := x.bank.Get(t.Kids[1])
		return api.Atom{Form: sum.Form, Bound: at.Number, Strict: t.Kind == api.TermLess}
	}
	return named(standName(n))
}

// named is a Bool constant: the true atom with a name.
func named(name string) api.Atom {
	a := atoms.New()[0]
	a.Name = name
	return a
}

// standName is what layer 14's Stand calls the constant that stands for a term, which need not be in the bank.
func standName(n int) string {
	return "\x00" + strconv.Itoa(n)
}

func limbsOf(a api.Atom) int {
	out := len(a.Bound.Num.Abs) + len(a.Bound.Den)
	for _, part := range a.Form {
		out += partLimbs + len(part.Coef.Num.Abs) + len(part.Coef.Den)
	}
	return out
}

// enter gives terms the literals of their atoms: of those that are in the table already, or of new ones behind all.
func (x *encoder) enter(l []entry) api.Errno {
	numbers := x.numbers(l)
	for _, one := range l {
		key := string(keys.WithAtom(nil, one.atom))
		if numbers[key] == 0 {
			if len(x.table) == api.MaxTerms {
				return api.ErrFull
			}
			x.table = append(x.table, one.atom)
			numbers[key] = len(x.table)
		}
		x.lits[one.term] = numbers[key]
	}
	return api.OK
}

// numbers are those that atoms have in the table, by their keys; 0, if they are not there. Only the keys that are asked for are kept: tables may be far longer than terms.
func (x *encoder) numbers(l []entry) map[string]int {
	out := make(map[string]int, len(l))
	for _, one := range l {
		out[string(keys.WithAtom(nil, one.atom))] = 0
	}
	var key []byte
	for i, a := range x.table {
		key = keys.WithAtom(key[:0], a)
		if _, ok := out[string(key)]; ok {
			out[string(key)] = i + 1
		}
	}
	return out
}
