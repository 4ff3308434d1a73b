package meaning

import (
	"fulcrum/api"
	"fulcrum/ratio"
)

// scope is what a term's value hangs on: the values of names, and those of its kids.
type scope struct {
	named named
	kids  map[int]api.Value
}

// rule is what terms of one kind say.
type rule struct {
	value func(t api.Term, s scope) api.Value
}

// rules are those of all kinds, each at its kind's place.
func rules() []rule {
	return []rule{
		api.TermTrue:     {value: sayTrue},
		api.TermFalse:    {value: sayFalse},
		api.TermName:     {value: sayName},
		api.TermNumber:   {value: sayNumber},
		api.TermNot:      {value: sayNot},
		api.TermAnd:      {value: sayAnd},
		api.TermOr:       {value: sayOr},
		api.TermXor:      {value: sayXor},
		api.TermImplies:  {value: sayImplies},
		api.TermIte:      {value: sayIte},
		api.TermEqual:    {value: sayEqual},
		api.TermDistinct: {value: sayDistinct},
		api.TermLess:     {value: sayLess},
		api.TermAtMost:   {value: sayAtMost},
		api.TermAdd:      {value: sayAdd},
		api.TermScale:    {value: sayScale},
	}
}

func sayTrue(t api.Term, s scope) api.Value {
	return truth(true)
}

func sayFalse(t api.Term, s scope) api.Value {
	return truth(false)
}

func sayName(t api.Term, s scope) api.Value {
	v, _ := s.named.find(t.Name)
	return answer(v)
}

func sayNumber(t api.Term, s scope) api.Value {
	return number(t.Number)
}

func sayNot(t api.Term, s scope) api.Value {
	return truth(!s.kids[t.Kids[0]].Bool)
}

func sayAnd(t api.Term, s scope) api.Value {
	return truth(s.trueKids(t) == len(t.Kids))
}

func sayOr(t api.Term, s scope) api.Value {
	return truth(s.trueKids(t) > 0)
}

func sayXor(t api.Term, s scope) api.Value {
	return truth(s.trueKids(t) == 1)
}

func sayImplies(t api.Term, s scope) api.Value {
	return truth(!s.kids[t.Kids[0]].Bool || s.kids[t.Kids[1]].Bool)
}

func sayIte(t api.Term, s scope) api.Value {
	if s.kids[t.Kids[0]].Bool {
		return s.kids[t.Kids[1]]
	}
	return s.kids[t.Kids[2]]
}

func sayEqual(t api.Term, s scope) api.Value {
	return truth(keyOf(s.kids[t.Kids[0]]) == keyOf(s.kids[t.Kids[1]]))
}

func sayDistinct(t api.Term, s scope) api.Value {
	return truth(s.allDiffer(t))
}

func sayLess(t api.Term, s scope) api.Value {
	return truth(s.order(t) < 0)
}

func sayAtMost(t api.Term, s scope) api.Value {
	return truth(s.order(t) <= 0)
}

func sayAdd(t api.Term, s scope) api.Value {
	return number(s.sum(t.Kids))
}

func sayScale(t api.Term, s scope) api.Value {
	return number(ratio.Mul(t.Number, s.kids[t.Kids[0]].Real))
}

// trueKids is how many kids are true.
func (s scope) trueKids(t api.Term) int {
	n := 0
	for _, kid := range t.Kids {
		if s.kids[kid].Bool {
			n++
		}
	}
	return n
}

// order is how the first of two kids stands to the second one.
func (s scope) order(t api.Term) int {
	return ratio.Cmp(s.kids[t.Kids[0]].Real, s.kids[t.Kids[1]].Real)
}

// sum adds up halves, so that long numbers are made as seldom as may be.
func (s scope) sum(kids []int) api.Rat {
	if len(kids) == 1 {
		return s.kids[kids[0]].Real
	}
	half := len(kids) / 2
	return ratio.Add(s.sum(kids[:half]), s.sum(kids[half:]))
}

// allDiffer tells whether no two kids have the same value. Pairs would be too many.
func (s scope) allDiffer(t api.Term) bool {
	seen := map[key]int{}
	for _, kid := range t.Kids {
		k := keyOf(s.kids[kid])
		if _, ok := seen[k]; ok {
			return false
		}
		seen[k] = kid
	}
	return true
}

// key is a value that can be compared. Numbers are normal, so the same ones have the same limbs.
type key struct {
	truth, below bool
	num, den     string
}

func keyOf(v api.Value) key {
	return key{truth: v.Bool, below: v.Real.Num.Neg, num: packed(v.Real.Num.Abs), den: packed(v.Real.Den)}
}

// packed is limbs as a text, four bytes each.
func packed(limbs api.Nat) string {
	out := make([]byte, 0, 4*len(limbs))
	for _, limb := range limbs {
		out = append(out, byte(limb), byte(limb>>8), byte(limb>>16), byte(limb>>24))
	}
	return string(out)
}
