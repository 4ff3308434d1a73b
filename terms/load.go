package terms

import (
	"strconv"
	"strings"

	"fulcrum/api"
)

// Load is a bank with these terms, in which these constants are declared.
func Load(l []api.Term, names []api.Param) (*Bank, api.Errno) {
	if len(l) > api.MaxTerms {
		return nil, api.ErrFull
	}
	b := New()
	for _, t := range l {
		if e := b.load(t); e != api.OK {
			return nil, e
		}
	}
	for _, p := range names {
		if e := b.loadName(p); e != api.OK {
			return nil, e
		}
	}
	return b, api.OK
}

// load puts a term behind the others, if it may stand there.
func (b *Bank) load(t api.Term) api.Errno {
	if e := b.fits(t); e != api.OK {
		return e
	}
	of, stands := b.standsFor(t)
	if t.Kind == api.TermName && !stands {
		if e := mayLoad(t); e != api.OK {
			return e
		}
	}
	here := len(b.terms)
	n, _ := b.put(b.normal(t)) // there is room, as l is not too long
	if n < here {
		return api.ErrTerm
	}
	if stands {
		b.stands[n] = b.printed(of)
	}
	return api.OK
}

// mayLoad is why a TermName may not stand anywhere. (Its Name may be one of the language's own words.)
func mayLoad(t api.Term) api.Errno {
	switch {
	case !isSort(t.Sort):
		return api.ErrSort
	case !canBeSaid(t.Name):
		return api.ErrPlain
	}
	return api.OK
}

// standsFor is the term ahead for which a TermName stands, if it is what Stand makes of one.
func (b *Bank) standsFor(t api.Term) (int, bool) {
	digits, ok := strings.CutPrefix(t.Name, standMark)
	n, err := strconv.Atoi(digits)
	if t.Kind != api.TermName || !ok || err != nil || !b.has(n) {
		return 0, false
	}
	return n, t.Name == standName(n) && t.Sort == b.sort(n)
}

// loadName declares a constant whose TermName is there.
func (b *Bank) loadName(p api.Param) api.Errno {
	if e := b.mayDeclare(p.Name, p.Sort); e != api.OK {
		return e
	}
	n, ok := b.places[keyOf(api.Term{Kind: api.TermName, Name: p.Name, Sort: p.Sort})]
	if !ok {
		return api.ErrTerm
	}
	b.give(p.Name, thing{declared: true, term: n})
	return api.OK
}
