package simplify

import (
	"fulcrum/api"
	"fulcrum/ratio"
	"fulcrum/terms"
)

// maker puts terms into a bank. Behind the first one that the bank refuses nothing more is put in, and what is made counts for nothing.
type maker struct {
	bank  *terms.Bank
	fault api.Errno
}

// answer is a term that was made, if nothing was refused.
func (m *maker) answer(t int) (int, api.Errno) {
	if m.fault != api.OK {
		return 0, m.fault
	}
	return t, api.OK
}

func (m *maker) put(t api.Term) int {
	if m.fault != api.OK {
		return 0
	}
	n, e := m.bank.Add(t)
	m.fault = e
	return n
}

func (m *maker) add(kind int, kids ...int) int {
	return m.put(api.Term{Kind: kind, Kids: kids})
}

// stand is the constant that stands for a term.
func (m *maker) stand(t int) int {
	if m.fault != api.OK {
		return 0
	}
	n, e := m.bank.Stand(t)
	m.fault = e
	return n
}

// real is the term of an affine form whose Form is normal, and whose variables are constants of Real.
func (m *maker) real(f api.Affine) int {
	var kids []int
	for _, part := range f.Form {
		kid := part.Var
		if !isOne(part.Coef) {
			kid = m.put(api.Term{Kind: api.TermScale, Number: part.Coef, Kids: []int{kid}})
		}
		kids = append(kids, kid)
	}
	if len(kids) == 0 || ratio.Sign(f.Const) != 0 {
		kids = append(kids, m.put(api.Term{Kind: api.TermNumber, Number: f.Const}))
	}
	if len(kids) == 1 {
		return kids[0]
	}
	return m.add(api.TermAdd, kids...)
}

func isOne(r api.Rat) bool {
	return ratio.Cmp(r, ratio.Whole(1)) == 0
}
