package terms_test

import (
	"math/rand"
	"strconv"
	"strings"

	"fulcrum/api"
)

// draw makes S-expressions that mostly can be read in a model, and now and then can't.
type draw struct {
	*rand.Rand
	m     *model
	bound []api.Param
	fresh int
	odd   int // one in so many parts is of any kind
}

func (d *draw) pick(l ...string) string { return l[d.Intn(len(l))] }

var numerals = []string{"0", "1", "2", "3", "7", "10", "0.5", "2.0", "1.25", "0.0", "18446744073709551616", "0.333"}

func (d *draw) number() api.Node {
	text := d.pick(numerals...)
	kind := api.TokNumeral
	if strings.Contains(text, ".") {
		kind = api.TokDecimal
	}
	return token(kind, text)
}

// known is a name of that sort that needs no kids, if there is one.
func (d *draw) known(sort int) (api.Node, bool) {
	var l []string
	for _, p := range d.bound {
		if p.Sort == sort {
			l = append(l, p.Name)
		}
	}
	for _, i := range d.m.things {
		if i.sort == sort && len(i.params) == 0 {
			l = append(l, i.name)
		}
	}
	if len(l) == 0 {
		return api.Node{}, false
	}
	return symbol(d.pick(l...)), true
}

// part is an S-expression of that sort, perhaps.
func (d *draw) part(sort, deep int) api.Node {
	if d.Intn(d.odd) == 0 {
		return d.any(deep)
	}
	if d.Intn(3*d.odd) == 0 {
		sort = 3 - sort
	}
	if deep == 0 || d.Intn(5) == 0 {
		if n, ok := d.known(sort); ok && d.Intn(4) > 0 {
			return n
		}
		if sort == api.SortBool {
			return symbol(d.pick("true", "false"))
		}
		return d.number()
	}
	switch d.Intn(10) {
	case 0:
		return d.let(sort, deep)
	case 1:
		d.fresh++
		return list(symbol("!"), d.part(sort, deep-1), token(api.TokKeyword, "named"), symbol(d.label()))
	case 2, 3:
		if n, ok := d.call(sort, deep); ok {
			return n
		}
	case 4:
		return list(symbol("ite"), d.part(api.SortBool, deep-1), d.part(sort, deep-1), d.part(sort, deep-1))
	}
	if sort == api.SortBool {
		return d.truth(deep)
	}
	return d.amount(deep)
}

// label is a name for a term, mostly a new one.
func (d *draw) label() string {
	if d.Intn(d.odd) == 0 {
		return d.pick("", "a|b", "x", "k 1", "and", "f", "\x00")
	}
	return "n" + strconv.Itoa(d.fresh)
}

func (d *draw) some(head string, sort, kids, deep int) api.Node {
	out := list(symbol(head))
	for range kids {
		out.Kids = append(out.Kids, d.part(sort, deep-1))
	}
	return out
}

func (d *draw) truth(deep int) api.Node {
	many := 2 + d.Intn(3)
	switch d.Intn(4) {
	case 0:
		return d.some("not", api.SortBool, 1, deep)
	case 1:
		return d.some(d.pick("and", "or", "xor", "=>"), api.SortBool, many, deep)
	case 2:
		return d.some(d.pick("=", "distinct"), 1+d.Intn(2), many, deep)
	}
	return d.some(d.pick("<", "<=", ">", ">="), api.SortReal, many, deep)
}

func (d *draw) amount(deep int) api.Node {
	many := 2 + d.Intn(3)
	switch d.Intn(4) {
	case 0:
		return d.some("-", api.SortReal, 1, deep)
	case 1:
		return d.some(d.pick("+", "-"), api.SortReal, many, deep)
	case 2:
		out := list(symbol("*"))
		for range many {
			out.Kids = append(out.Kids, d.number())
		}
		out.Kids[1+d.Intn(many)] = d.part(api.SortReal, deep-1)
		if d.Intn(4) == 0 {
			out.Kids[1+d.Intn(many)] = d.part(api.SortReal, 0)
		}
		return out
	}
	out := list(symbol("/"), d.part(api.SortReal, deep-1))
	for range 1 + d.Intn(2) {
		out.Kids = append(out.Kids, d.number())
	}
	return out
}

func (d *draw) let(sort, deep int) api.Node {
	pairs, outside := list(), len(d.bound)
	var inside []api.Param
	for range 1 + d.Intn(3) {
		p := api.Param{Name: d.pick("x", "y", "p", "a", "b", "c", "k 1", "n1", "", "let it", "f"), Sort: 1 + d.Intn(2)}
		pairs.Kids = append(pairs.Kids, list(symbol(p.Name), d.part(p.Sort, deep-1)))
		inside = append(inside, p)
	}
	d.bound = append(d.bound, inside...)
	u := d.part(sort, deep-1)
	d.bound = d.bound[:outside]
	return list(symbol("let"), pairs, u)
}

func (d *draw) call(sort, deep int) (api.Node, bool) {
	var l []item
	for _, i := range d.m.things {
		if i.sort == sort && len(i.params) > 0 {
			l = append(l, i)
		}
	}
	if len(l) == 0 {
		return api.Node{}, false
	}
	i := l[d.Intn(len(l))]
	out := list(symbol(i.name))
	for _, p := range i.params {
		out.Kids = append(out.Kids, d.part(p.Sort, deep-1))
	}
	return out, true
}

// any is a part that hardly fits where it stands: with too few kids, too many, or of forms that are none.
func (d *draw) any(deep int) api.Node {
	if deep > 0 && d.Intn(2) == 0 {
		out := list()
		if d.Intn(6) > 0 {
			out.Kids = append(out.Kids, symbol(d.pick(append(ownWords, "x", "p", "f", "g", "m", "nobody")...)))
		}
		for range d.Intn(4) {
			out.Kids = append(out.Kids, d.part(1+d.Intn(2), deep-1))
		}
		return out
	}
	n := token(d.Intn(11), d.pick("", "x", "p", "f", "nobody", "007", "1.5", "7", "named", "true", "and", "a|b", "n1"))
	if d.Intn(3) == 0 {
		n.Token.Begin, n.Token.End, n.Token.Line, n.Token.Column = d.Intn(9), d.Intn(9), d.Intn(9), d.Intn(9)
	}
	if n.Token.Kind != api.TokNone && d.Intn(3) == 0 {
		n.Kids = []api.Node{symbol("x"), list(list())}
	}
	return n
}
