package terms

import (
	"slices"

	"fulcrum/api"
	"fulcrum/ratio"
)

// leaf puts a term that has no kids: a number, or a truth.
func (b *Bank) leaf(l leaf) (int, api.Errno) {
	return b.put(api.Term{Kind: l.kind, Sort: shapes[l.kind].sort, Number: l.number})
}

// constant is a term that is there already.
func (b *Bank) constant(term int) int {
	return term
}

// join puts what a word says of kids.
func (b *Bank) join(w word, kids []int) (int, api.Errno) {
	out, e := judge(b, w, kids)
	if e != api.OK {
		return 0, e
	}
	if out.isNumber {
		return b.leaf(leaf{kind: api.TermNumber, number: out.number})
	}
	switch w {
	case wordXor:
		return b.fromLeft(kids)
	case wordImplies:
		return b.fromRight(kids)
	case wordEqual, wordLess, wordAtMost, wordAbove, wordAtLeast:
		return b.neighbours(w, kids)
	case wordMinus:
		return b.less(kids)
	case wordTimes, wordOver:
		return b.scaled(kids, out.number)
	}
	return b.tie(usages[w].kind, kids...)
}

// tie puts a term of kids, which are the bank's from then on.
func (b *Bank) tie(kind int, kids ...int) (int, api.Errno) {
	return b.put(api.Term{Kind: kind, Sort: sortBy(kind, kids, b.sort), Kids: kids})
}

func (b *Bank) fromLeft(kids []int) (int, api.Errno) {
	n, e := kids[0], api.OK
	for _, kid := range kids[1:] {
		if n, e = b.tie(api.TermXor, n, kid); e != api.OK {
			return 0, e
		}
	}
	return n, api.OK
}

func (b *Bank) fromRight(kids []int) (int, api.Errno) {
	n, e := kids[len(kids)-1], api.OK
	for _, kid := range slices.Backward(kids[:len(kids)-1]) {
		if n, e = b.tie(api.TermImplies, kid, n); e != api.OK {
			return 0, e
		}
	}
	return n, api.OK
}

// neighbours holds each kid against the next one.
func (b *Bank) neighbours(w word, kids []int) (int, api.Errno) {
	var all []int
	for i, right := range kids[1:] {
		left := kids[i]
		if w == wordAbove || w == wordAtLeast {
			left, right = right, left
		}
		n, e := b.tie(usages[w].kind, left, right)
		if e != api.OK {
			return 0, e
		}
		all = append(all, n)
	}
	if len(all) == 1 {
		return all[0], api.OK
	}
	return b.tie(api.TermAnd, all...)
}

// less is the opposite of a kid that is no number, or the first of several with the opposites of the others.
func (b *Bank) less(kids []int) (int, api.Errno) {
	if len(kids) == 1 {
		return b.opposite(kids[0])
	}
	all := kids[:1:1]
	for _, kid := range kids[1:] {
		n, e := b.opposite(kid)
		if e != api.OK {
			return 0, e
		}
		all = append(all, n)
	}
	return b.tie(api.TermAdd, all...)
}

func (b *Bank) opposite(kid int) (int, api.Errno) {
	if r, ok := b.number(kid); ok {
		return b.leaf(leaf{kind: api.TermNumber, number: ratio.Neg(r)})
	}
	return b.scaled([]int{kid}, ratio.Whole(-1))
}

// scaled is the kid that is no number, so many times.
func (b *Bank) scaled(kids []int, factor api.Rat) (int, api.Errno) {
	at := slices.IndexFunc(kids, func(kid int) bool { return b.terms[kid].Kind != api.TermNumber })
	return b.put(api.Term{Kind: api.TermScale, Sort: api.SortReal, Number: factor, Kids: []int{kids[at]}})
}
