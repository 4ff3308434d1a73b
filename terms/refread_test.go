package terms_test

import (
	"math/big"
	"slices"

	"fulcrum/api"
	"fulcrum/sexpr"
)

// The model's reading: 'What an S-expression says', word by word.

func at(n api.Node, v int, e api.Errno) (int, wrong) {
	if e != api.OK {
		return 0, wrong{e, n}
	}
	return v, wrong{}
}

func (m *model) says(n api.Node, bound []local) (int, wrong) {
	switch n.Token.Kind {
	case api.TokNone:
		return m.saysList(n, bound)
	case api.TokSymbol:
		return m.saysSymbol(n, bound)
	case api.TokNumeral, api.TokDecimal:
		if _, e := sexpr.Print(token(n.Token.Kind, n.Token.Text)); e != api.OK {
			return 0, wrong{api.ErrSyntax, n}
		}
		r, _ := new(big.Rat).SetString(n.Token.Text)
		v, e := m.put(entry{kind: api.TermNumber, sort: api.SortReal, number: r})
		return at(n, v, e)
	}
	return 0, wrong{api.ErrSyntax, n}
}

func isBound(name string, bound []local) (int, bool) {
	for _, l := range slices.Backward(bound) {
		if l.name == name {
			return l.term, true
		}
	}
	return 0, false
}

func (m *model) saysSymbol(n api.Node, bound []local) (int, wrong) {
	name := n.Token.Text
	if kind := slices.Index([]string{"", "true", "false"}, name); kind > 0 {
		v, e := m.put(entry{kind: kind, sort: api.SortBool})
		return at(n, v, e)
	}
	if slices.Contains(ownWords, name) {
		return 0, wrong{api.ErrSyntax, n}
	}
	if v, ok := isBound(name, bound); ok {
		return v, wrong{}
	}
	i := m.find(name)
	switch {
	case i == nil:
		return 0, wrong{api.ErrUnknown, n}
	case i.isTerm:
		return i.term, wrong{}
	case len(i.params) > 0:
		return 0, wrong{api.ErrArity, n}
	}
	v, w := m.says(i.body, nil)
	return at(n, v, w.err)
}

func (m *model) saysList(n api.Node, bound []local) (int, wrong) {
	if len(n.Kids) == 0 || n.Kids[0].Token.Kind != api.TokSymbol {
		return 0, wrong{api.ErrSyntax, n}
	}
	head := n.Kids[0].Token.Text
	switch {
	case head == "let":
		return m.saysLet(n, bound)
	case head == "!":
		return m.saysNamed(n, bound)
	case slices.Contains(ownWords, head) && !slices.Contains(ownWords[2:18], head):
		return 0, wrong{api.ErrSyntax, n.Kids[0]}
	}
	_, hidden := isBound(head, bound)
	i := m.find(head)
	isWord := slices.Contains(ownWords, head)
	if !isWord && !hidden && i == nil {
		return 0, wrong{api.ErrUnknown, n.Kids[0]}
	}
	var kids []int
	for _, kid := range n.Kids[1:] {
		v, w := m.says(kid, bound)
		if w.err != api.OK {
			return 0, w
		}
		kids = append(kids, v)
	}
	if isWord {
		v, e := m.apply(head, kids)
		return at(n, v, e)
	}
	if i = m.find(head); hidden || i.isTerm || len(i.params) == 0 || len(i.params) != len(kids) {
		return 0, wrong{api.ErrArity, n}
	}
	var inside []local
	for k, p := range i.params {
		if m.at(kids[k]).sort != p.Sort {
			return 0, wrong{api.ErrSort, n}
		}
		inside = append(inside, local{p.Name, kids[k]})
	}
	v, w := m.says(i.body, inside)
	return at(n, v, w.err)
}

func isList(n api.Node) bool { return n.Token.Kind == api.TokNone }

func (m *model) saysLet(n api.Node, bound []local) (int, wrong) {
	good := len(n.Kids) == 3 && isList(n.Kids[1]) && len(n.Kids[1].Kids) > 0
	if good {
		for _, pair := range n.Kids[1].Kids {
			good = good && isList(pair) && len(pair.Kids) == 2 && pair.Kids[0].Token.Kind == api.TokSymbol
		}
	}
	if !good {
		return 0, wrong{api.ErrSyntax, n}
	}
	inside := slices.Clone(bound)
	for i, pair := range n.Kids[1].Kids {
		x := pair.Kids[0]
		again := slices.ContainsFunc(n.Kids[1].Kids[:i], func(p api.Node) bool { return p.Kids[0].Token.Text == x.Token.Text })
		if again || slices.Contains(ownWords, x.Token.Text) {
			return 0, wrong{api.ErrDeclared, x}
		}
		v, w := m.says(pair.Kids[1], bound)
		if w.err != api.OK {
			return 0, w
		}
		inside = append(inside, local{x.Token.Text, v})
	}
	return m.says(n.Kids[2], inside)
}

func (m *model) saysNamed(n api.Node, bound []local) (int, wrong) {
	if m.isBody || len(n.Kids) != 4 || n.Kids[2].Token.Kind != api.TokKeyword || n.Kids[2].Token.Text != "named" || n.Kids[3].Token.Kind != api.TokSymbol {
		return 0, wrong{api.ErrSyntax, n}
	}
	v, w := m.says(n.Kids[1], bound)
	if w.err != api.OK {
		return 0, w
	}
	x := n.Kids[3]
	if e := m.mayGive(x.Token.Text); e != api.OK {
		return 0, wrong{e, x}
	}
	m.things = append(m.things, item{name: x.Token.Text, sort: m.at(v).sort, isTerm: true, term: v})
	return v, wrong{}
}

// apply is what one of the words says of kids.
func (m *model) apply(word string, kids []int) (int, api.Errno) {
	least, most := 2, len(kids)+2
	switch word {
	case "not":
		least, most = 1, 1
	case "ite":
		least, most = 3, 3
	case "-":
		least = 1
	}
	if len(kids) < least || len(kids) > most {
		return 0, api.ErrArity
	}
	want := slices.Repeat([]int{api.SortReal}, len(kids))
	switch word {
	case "not", "and", "or", "xor", "=>":
		want = slices.Repeat([]int{api.SortBool}, len(kids))
	case "=", "distinct":
		want = make([]int, len(kids))
	case "ite":
		want = []int{api.SortBool, api.SortNone, api.SortNone}
	}
	if !m.sortsAre(kids, want) {
		return 0, api.ErrSort
	}
	return m.build(word, kids)
}

func (m *model) tie(kind int, kids ...int) (int, api.Errno) {
	return m.put(m.entryOf(api.Term{Kind: kind, Kids: kids}))
}

func (m *model) build(word string, kids []int) (int, api.Errno) {
	switch word {
	case "not", "and", "or", "ite", "distinct":
		for kind, head := range heads {
			if head == word {
				return m.tie(kind, kids...)
			}
		}
	case "xor":
		if len(kids) > 2 {
			left, e := m.build(word, kids[:len(kids)-1])
			if e != api.OK {
				return 0, e
			}
			kids = []int{left, kids[len(kids)-1]}
		}
		return m.tie(api.TermXor, kids...)
	case "=>":
		if len(kids) > 2 {
			right, e := m.build(word, kids[1:])
			if e != api.OK {
				return 0, e
			}
			kids = []int{kids[0], right}
		}
		return m.tie(api.TermImplies, kids...)
	case "=", "<", "<=", ">", ">=":
		return m.compare(word, kids)
	}
	return m.reckon(word, kids)
}

func (m *model) compare(word string, kids []int) (int, api.Errno) {
	kind := map[string]int{"=": api.TermEqual, "<": api.TermLess, ">": api.TermLess, "<=": api.TermAtMost, ">=": api.TermAtMost}[word]
	var all []int
	for i := 1; i < len(kids); i++ {
		two := []int{kids[i-1], kids[i]}
		if word[0] == '>' {
			slices.Reverse(two)
		}
		n, e := m.tie(kind, two...)
		if e != api.OK {
			return 0, e
		}
		all = append(all, n)
	}
	if len(all) == 1 {
		return all[0], api.OK
	}
	return m.tie(api.TermAnd, all...)
}

// tooLong tells whether one of some numbers has more limbs than may be.
func tooLong(l []*big.Rat) bool {
	return slices.ContainsFunc(l, func(r *big.Rat) bool {
		return max(r.Num().BitLen(), r.Denom().BitLen()) > 32*api.MaxLimbs
	})
}

// reckon is + - * / of kids of Real.
func (m *model) reckon(word string, kids []int) (int, api.Errno) {
	var numbers []*big.Rat
	others := -1
	count := 0
	for _, kid := range kids {
		if e := m.at(kid); e.kind == api.TermNumber {
			numbers = append(numbers, e.number)
		} else {
			others, count = kid, count+1
		}
	}
	switch word {
	case "+", "-":
		return m.sum(word, kids, numbers)
	case "*":
		if count > 1 {
			return 0, api.ErrLinear
		}
		way := []*big.Rat{big.NewRat(1, 1)}
		for _, r := range numbers {
			way = append(way, new(big.Rat).Mul(way[len(way)-1], r))
		}
		return m.times(way, others)
	}
	way := []*big.Rat{big.NewRat(1, 1)}
	for _, kid := range kids[1:] {
		e := m.at(kid)
		if e.kind != api.TermNumber || e.number.Sign() == 0 {
			return 0, api.ErrDivide
		}
		way = append(way, new(big.Rat).Quo(way[len(way)-1], e.number))
	}
	if others < 0 {
		way = append(way, new(big.Rat).Mul(way[len(way)-1], numbers[0]))
	}
	return m.times(way, others)
}

// times is the last number of a way, or that times the one kid that is none.
func (m *model) times(way []*big.Rat, other int) (int, api.Errno) {
	if tooLong(way) {
		return 0, api.ErrLong
	}
	last := entry{kind: api.TermNumber, sort: api.SortReal, number: way[len(way)-1]}
	if other >= 0 {
		last.kind, last.kids = api.TermScale, []int{other}
	}
	return m.put(last)
}

func (m *model) sum(word string, kids []int, numbers []*big.Rat) (int, api.Errno) {
	if word == "-" && len(kids) == 1 {
		return m.opposite(kids[0])
	}
	if len(numbers) == len(kids) {
		way := numbers[:1:1]
		for _, r := range numbers[1:] {
			if word == "-" {
				r = new(big.Rat).Neg(r)
			}
			way = append(way, new(big.Rat).Add(way[len(way)-1], r))
		}
		return m.times(way, -1)
	}
	all := kids[:1:1]
	for _, kid := range kids[1:] {
		n, e := kid, api.OK
		if word == "-" {
			n, e = m.opposite(kid)
		}
		if e != api.OK {
			return 0, e
		}
		all = append(all, n)
	}
	return m.tie(api.TermAdd, all...)
}

func (m *model) opposite(kid int) (int, api.Errno) {
	if e := m.at(kid); e.kind == api.TermNumber {
		return m.put(entry{kind: api.TermNumber, sort: api.SortReal, number: new(big.Rat).Neg(e.number)})
	}
	return m.put(entry{kind: api.TermScale, sort: api.SortReal, number: big.NewRat(-1, 1), kids: []int{kid}})
}
