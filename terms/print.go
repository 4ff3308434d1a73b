package terms

import (
	"strings"

	"fulcrum/api"
	"fulcrum/ratio"
	"fulcrum/tokens"
)

// limbDigits is how many decimal digits a number has at least for each limb but its highest one.
const limbDigits = 9

// Print is a term's text.
func (b *Bank) Print(n int) (string, api.Errno) {
	if e := b.want(n); e != api.OK {
		return "", e
	}
	p := printer{bank: b}
	p.term(n)
	if p.isLong() {
		return "", api.ErrLong
	}
	return p.out.String(), api.OK
}

// printer writes till the text is too long: that of a term may be far longer than its bank, as kids are written as often as they stand there.
type printer struct {
	bank    *Bank
	out     strings.Builder
	tooLong bool
}

func (p *printer) isLong() bool {
	return p.tooLong || p.out.Len() > api.MaxText
}

func (p *printer) term(n int) {
	t := p.bank.terms[p.bank.printed(n)]
	switch t.Kind {
	case api.TermTrue:
		p.out.WriteString(wordTrue)
	case api.TermFalse:
		p.out.WriteString(wordFalse)
	case api.TermName:
		text, _ := tokens.Symbol(t.Name) // a name that is there can be said
		p.out.WriteString(text)
	case api.TermNumber:
		p.number(t.Number)
	default:
		p.list(t)
	}
}

func (p *printer) list(t api.Term) {
	p.out.WriteByte('(')
	p.out.WriteString(textOf(t.Kind))
	if t.Kind == api.TermScale {
		p.out.WriteByte(' ')
		p.number(t.Number)
	}
	for _, kid := range t.Kids {
		if p.isLong() {
			return
		}
		p.out.WriteByte(' ')
		p.term(kid)
	}
	p.out.WriteByte(')')
}

// textOf is the word ahead of a kind's kids: the first one that makes such terms.
func textOf(kind int) string {
	w := wordNot
	for usages[w].kind != kind {
		w++
	}
	return usages[w].text
}

// number writes no number that is too long by its limbs alone: to find all its digits would take long.
func (p *printer) number(r api.Rat) {
	if (max(len(r.Num.Abs), len(r.Den))-1)*limbDigits > api.MaxText {
		p.tooLong = true
		return
	}
	p.out.WriteString(ratio.Script(r))
}
