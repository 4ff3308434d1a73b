package terms

import (
	"fulcrum/api"
	"fulcrum/ratio"
	"fulcrum/sexpr"
)

// fault is what is wrong, and the part of an S-expression that it is wrong with.
type fault struct {
	err  api.Errno
	part *api.Node
}

// maker makes values of what is read: terms of a bank, or steps of a macro.
type maker interface {
	sort(v int) int
	leaf(l leaf) (int, api.Errno)
	constant(term int) int
	join(w word, kids []int) (int, api.Errno)
	call(m *macro, args []int) (int, api.Errno)
}

// reader goes over S-expressions from the left on.
type reader struct {
	bank   *Bank
	maker  maker
	scope  scope
	isBody bool // of a macro, in which nothing is named
}

// Read is the term that an S-expression says; with an error the part that is wrong.
func (b *Bank) Read(n api.Node) (int, api.Errno, api.Node) {
	if !b.isMade() {
		return 0, api.ErrArg, api.Node{}
	}
	terms, names := len(b.terms), len(b.things)
	r := reader{bank: b, maker: &filling{Bank: b}, scope: newScope()}
	v, f := r.read(&n)
	if f.err != api.OK {
		b.cut(terms)
		b.Forget(names) // there are so many at least
		return 0, f.err, copied(*f.part)
	}
	return v, api.OK, api.Node{}
}

// read is the value that a part has.
func (r *reader) read(n *api.Node) (int, fault) {
	switch n.Token.Kind {
	case api.TokNone:
		return r.list(n)
	case api.TokSymbol:
		return r.symbol(n)
	case api.TokNumeral, api.TokDecimal:
		return r.number(n)
	}
	return 0, fault{api.ErrSyntax, n}
}

// of is a value, or what is wrong with the part that should have it.
func of(n *api.Node, v int, e api.Errno) (int, fault) {
	if e != api.OK {
		return 0, fault{e, n}
	}
	return v, fault{}
}

func (r *reader) number(n *api.Node) (int, fault) {
	if _, e := sexpr.Print(*n); e != api.OK {
		return 0, fault{api.ErrSyntax, n}
	}
	number, _ := ratio.Parse(n.Token.Text) // which reads all that these tokens can be
	v, e := r.maker.leaf(leaf{kind: api.TermNumber, number: number})
	return of(n, v, e)
}

func (r *reader) symbol(n *api.Node) (int, fault) {
	v, e := r.named(n.Token.Text)
	return of(n, v, e)
}

// named is what a name says that stands alone.
func (r *reader) named(name string) (int, api.Errno) {
	switch {
	case name == wordTrue:
		return r.maker.leaf(leaf{kind: api.TermTrue})
	case name == wordFalse:
		return r.maker.leaf(leaf{kind: api.TermFalse})
	case isOwn(name):
		return 0, api.ErrSyntax
	}
	if v, ok := r.scope.find(name); ok {
		return v, api.OK
	}
	t, ok := r.bank.find(name)
	switch {
	case !ok:
		return 0, api.ErrUnknown
	case t.macro == nil:
		return r.maker.constant(t.term), api.OK
	case len(t.macro.params) > 0:
		return 0, api.ErrArity
	}
	return r.maker.call(t.macro, nil)
}

func (r *reader) list(n *api.Node) (int, fault) {
	if len(n.Kids) == 0 || !isSymbol(n.Kids[0]) {
		return 0, fault{api.ErrSyntax, n}
	}
	switch n.Kids[0].Token.Text {
	case wordLet:
		return r.let(n)
	case wordNamed:
		return r.name(n)
	}
	h, e := r.head(n.Kids[0].Token.Text)
	if e != api.OK {
		return 0, fault{e, &n.Kids[0]}
	}
	kids, f := r.kids(n.Kids[1:])
	if f.err != api.OK {
		return 0, f
	}
	v, e := r.say(h, kids)
	return of(n, v, e)
}

func isSymbol(n api.Node) bool {
	return n.Token.Kind == api.TokSymbol
}

// head is what stands ahead in a list: a word, a macro, or (neither) what takes no kids.
type head struct {
	word  word
	macro *macro
}

func (r *reader) head(name string) (head, api.Errno) {
	if w := wordOf(name); w != noWord {
		return head{word: w}, api.OK
	}
	if isOwn(name) {
		return head{}, api.ErrSyntax
	}
	if _, ok := r.scope.find(name); ok {
		return head{}, api.OK
	}
	t, ok := r.bank.find(name)
	if !ok {
		return head{}, api.ErrUnknown
	}
	return head{macro: t.macro}, api.OK
}

func (r *reader) kids(l []api.Node) ([]int, fault) {
	out := make([]int, len(l))
	for i := range l {
		v, f := r.read(&l[i])
		if f.err != api.OK {
			return nil, f
		}
		out[i] = v
	}
	return out, fault{}
}

// say is what a head says of kids.
func (r *reader) say(h head, kids []int) (int, api.Errno) {
	if h.word != noWord {
		return r.maker.join(h.word, kids)
	}
	if h.macro == nil || len(kids) == 0 || len(kids) != len(h.macro.params) {
		return 0, api.ErrArity
	}
	for i, sort := range h.macro.params {
		if r.maker.sort(kids[i]) != sort {
			return 0, api.ErrSort
		}
	}
	return r.maker.call(h.macro, kids)
}

// let reads (let ((x t) ..) u).
func (r *reader) let(n *api.Node) (int, fault) {
	if !isLet(n) {
		return 0, fault{api.ErrSyntax, n}
	}
	pairs := n.Kids[1].Kids
	values := make([]int, len(pairs))
	ahead := map[string]int{}
	for i := range pairs {
		x, t := &pairs[i].Kids[0], &pairs[i].Kids[1]
		if _, twice := ahead[x.Token.Text]; twice || isOwn(x.Token.Text) {
			return 0, fault{api.ErrDeclared, x}
		}
		ahead[x.Token.Text] = i
		v, f := r.read(t)
		if f.err != api.OK {
			return 0, f
		}
		values[i] = v
	}
	for i, pair := range pairs {
		r.scope.bind(pair.Kids[0].Token.Text, values[i])
	}
	v, f := r.read(&n.Kids[2])
	r.scope.leave(len(pairs))
	return v, f
}

func isLet(n *api.Node) bool {
	if len(n.Kids) != 3 || n.Kids[1].Token.Kind != api.TokNone || len(n.Kids[1].Kids) == 0 {
		return false
	}
	for _, pair := range n.Kids[1].Kids {
		if pair.Token.Kind != api.TokNone || len(pair.Kids) != 2 || !isSymbol(pair.Kids[0]) {
			return false
		}
	}
	return true
}

// name reads (! t :named x).
func (r *reader) name(n *api.Node) (int, fault) {
	if r.isBody || !isNaming(n) {
		return 0, fault{api.ErrSyntax, n}
	}
	v, f := r.read(&n.Kids[1])
	if f.err != api.OK {
		return 0, f
	}
	x := &n.Kids[3]
	if e := r.bank.mayGive(x.Token.Text); e != api.OK {
		return 0, fault{e, x}
	}
	r.bank.give(x.Token.Text, thing{term: v})
	return v, fault{}
}

func isNaming(n *api.Node) bool {
	return len(n.Kids) == 4 && n.Kids[2].Token.Kind == api.TokKeyword && n.Kids[2].Token.Text == "named" && isSymbol(n.Kids[3])
}
