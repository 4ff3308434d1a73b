package terms_test

import (
	"fmt"
	"math"
	"math/rand"
	"strings"
	"sync"
	"testing"
	"unsafe"

	"fulcrum/api"
	"fulcrum/terms"
)

// loan is memory that is lent to a call, and written over when the call has answered.
type loan struct {
	texts []([]byte)
	nodes [][]api.Node
	limbs []api.Nat
	kids  [][]int
}

func (l *loan) text(s string) string {
	room := []byte(s)
	l.texts = append(l.texts, room)
	return unsafe.String(unsafe.SliceData(room), len(room))
}

// node is a node in memory that is lent, with room behind each list's end.
func (l *loan) node(n api.Node) api.Node {
	n.Token.Text = l.text(n.Token.Text)
	if len(n.Kids) == 0 {
		return n
	}
	kids := make([]api.Node, len(n.Kids), len(n.Kids)+2)
	for i, kid := range n.Kids {
		kids[i] = l.node(kid)
	}
	l.nodes = append(l.nodes, kids)
	n.Kids = kids
	return n
}

func (l *loan) nat(a api.Nat) api.Nat {
	out := append(make(api.Nat, 0, len(a)+2), a...)
	l.limbs = append(l.limbs, out)
	return out
}

func (l *loan) term(t api.Term) api.Term {
	t.Name = l.text(t.Name)
	t.Number = api.Rat{Num: api.Int{Neg: t.Number.Num.Neg, Abs: l.nat(t.Number.Num.Abs)}, Den: l.nat(t.Number.Den)}
	kids := append(make([]int, 0, len(t.Kids)+2), t.Kids...)
	l.kids = append(l.kids, kids)
	t.Kids = kids
	return t
}

func (l *loan) params(in []api.Param) []api.Param {
	var out []api.Param
	for _, p := range in {
		out = append(out, api.Param{Name: l.text(p.Name), Sort: p.Sort})
	}
	return out
}

// seen is all that was lent, with the room behind each list's end.
func (l *loan) seen() string {
	var out strings.Builder
	for _, room := range l.texts {
		fmt.Fprintf(&out, "%q ", room)
	}
	for _, kids := range l.nodes {
		fmt.Fprintf(&out, "%+v ", kids[:cap(kids)])
	}
	for _, limbs := range l.limbs {
		fmt.Fprint(&out, limbs[:cap(limbs)])
	}
	for _, kids := range l.kids {
		fmt.Fprint(&out, kids[:cap(kids)])
	}
	return out.String()
}

// spoil writes over all that was lent.
func (l *loan) spoil() {
	for _, room := range l.texts {
		for i := range room {
			room[i] = '?'
		}
	}
	for _, kids := range l.nodes {
		spoilNodes(kids[:cap(kids)])
	}
	for _, limbs := range l.limbs {
		for i := range limbs[:cap(limbs)] {
			limbs[:cap(limbs)][i] = 77
		}
	}
	for _, kids := range l.kids {
		for i := range kids[:cap(kids)] {
			kids[:cap(kids)][i] = -77
		}
	}
}

func spoilNodes(l []api.Node) {
	for i := range l {
		spoilNodes(l[i].Kids[:cap(l[i].Kids)])
		l[i] = api.Node{Token: api.Token{Kind: 77, Text: "spoilt", Begin: -1}}
	}
}

// spoilTerm writes over a term that was told.
func spoilTerm(t api.Term) {
	l := loan{limbs: []api.Nat{t.Number.Num.Abs, t.Number.Den}, kids: [][]int{t.Kids}}
	l.spoil()
}

// A panic would end the test, and so would a call that does not end: any arguments, on any bank.
func TestR1AnyArguments(t *testing.T) {
	r := rand.New(rand.NewSource(1))
	ints := []int{0, 1, -1, 2, 3, 5, 99, 1 << 18, 1 << 40, math.MaxInt, math.MinInt}
	names := append([]string{"", "x", "p", "\x000", "a|b", "\xff", "é", "a b", strings.Repeat("z", 5000)}, ownWords...)
	pick := func() int { return ints[r.Intn(len(ints))] }
	name := func() string { return names[r.Intn(len(names))] }
	for range 300 {
		w := newWalk(t, r, 3)
		for _, p := range params("xR", "pB") {
			w.declare(p.Name, p.Sort)
		}
		b := w.b
		for range 60 {
			n := w.d.any(4)
			b.Get(pick())
			b.Print(pick())
			b.Stand(pick())
			b.Declare(name(), pick())
			b.Add(api.Term{Kind: r.Intn(18), Sort: pick(), Name: name(), Kids: []int{pick(), pick(), pick()}[:r.Intn(4)]})
			b.Define(name(), []api.Param{{Name: name(), Sort: r.Intn(4)}, {Name: name(), Sort: r.Intn(3)}}[:r.Intn(3)], pick(), n)
			b.Read(n)
			b.Forget(pick())
			terms.Load([]api.Term{{Kind: r.Intn(18), Sort: pick(), Name: name(), Kids: []int{pick(), pick()}[:r.Intn(3)]}, {Kind: r.Intn(18), Sort: r.Intn(3), Name: name(), Kids: []int{0, 0, 0}[:r.Intn(4)]}}, []api.Param{{Name: name(), Sort: r.Intn(3)}}[:r.Intn(2)])
		}
	}
}

// Parts that stand as deep in one another as may be, right ones and wrong ones, also as kids of a token.
func TestR1Deep(t *testing.T) {
	b := bank(t)
	const deep = 1<<16 - 2
	for _, c := range []struct {
		in  api.Node
		err api.Errno
	}{
		{nested("not", symbol("p"), deep), api.OK}, {nested("not", symbol("nobody"), deep), api.ErrUnknown}, {list(symbol("nobody"), nested("not", symbol("p"), deep)), api.ErrUnknown}, {list(nested("a", symbol("p"), deep)), api.ErrSyntax}, {nested("-", symbol("x"), deep/2), api.OK}, {nested("f", symbol("x"), deep), api.OK},
		{api.Node{Token: api.Token{Kind: 77}, Kids: []api.Node{nested("a", symbol("p"), deep)}}, api.ErrSyntax}, {nested("not", symbol("x"), deep), api.ErrSort},
	} {
		if b.Names() == 4 {
			define(t, b, "f", params("aR"), api.SortReal, "a")
		}
		_, e, _ := b.Read(c.in)
		wantErr(t, "Read", e, c.err)
		sort := api.SortBool
		if c.in.Kids[0].Token.Text == "-" || c.in.Kids[0].Token.Text == "f" {
			sort = api.SortReal
		}
		e, _ = b.Define("g", nil, sort, c.in)
		wantErr(t, "Define", e, c.err)
		wantErr(t, "Forget", b.Forget(5), api.OK)
	}
	lets := symbol("x")
	for range 1 << 14 {
		lets = list(symbol("let"), list(list(symbol("x"), list(symbol("-"), symbol("x")))), lets)
	}
	_, e, _ := b.Read(lets)
	wantErr(t, "lets in lets", e, api.OK)
}

// Bodies that are deep, in a chain of macros: what they say together is far deeper than any one of them.
func TestR1DeepMacros(t *testing.T) {
	b := bank(t)
	define(t, b, "f0", params("aB"), api.SortBool, "a")
	for k := 1; k <= 300; k++ {
		e, _ := b.Define(fmt.Sprint("f", k), params("aB"), api.SortBool, list(symbol(fmt.Sprint("f", k-1)), symbol("a")))
		wantErr(t, "Define", e, api.OK)
	}
	body := func(of string) api.Node { return nested("not", list(symbol(of), symbol("a")), 10000) }
	e, _ := b.Define("g0", params("aB"), api.SortBool, body("f300"))
	wantErr(t, "Define", e, api.OK)
	for k := 1; k <= 100; k++ {
		e, _ := b.Define(fmt.Sprint("g", k), params("aB"), api.SortBool, body(fmt.Sprint("g", k-1)))
		wantErr(t, "Define", e, api.OK)
	}
	_, e, _ = b.Read(node("(g20 p)"))
	wantErr(t, "Read", e, api.OK)
	wantNumber(t, "Len", b.Len(), 4+21*10000)
	wantFull(t, b, "(g100 q)", "(g100 q)")
}

// What is handed in is neither changed nor kept: it is written over when a call has answered, and the bank goes on as one that was given memory of its own.
func TestR3WhatIsHandedIn(t *testing.T) {
	for seed := range 150 {
		w := newWalk(t, rand.New(rand.NewSource(int64(seed))), 30)
		lent := terms.New()
		check := func(what string, do func(l *loan)) {
			l := &loan{}
			do(l)
			l.spoil()
			wantText(t, what, dump(lent), dump(w.b))
		}
		for range 40 {
			name, sort := w.d.pick("x", "y", "p", "q", "u", "v", "f", "g"), 1+w.d.Intn(2)
			check("Declare", func(l *loan) { w.declare(name, sort); lent.Declare(l.text(name), sort) })
			in := w.d.part(sort, 3)
			check("Read", func(l *loan) { w.read(in); lent.Read(l.node(in)) })
			term := w.someTerm()
			check("Add", func(l *loan) { w.add(term); lent.Add(l.term(term)) })
			if w.b.Names() > 15 {
				w.forget(9)
				lent.Forget(9)
			}
			ps := w.someParams()
			w.d.bound = ps
			body := w.d.part(sort, 2)
			w.d.bound = nil
			check("Define", func(l *loan) {
				w.define(name, ps, sort, body)
				lent.Define(l.text(name), l.params(ps), sort, l.node(body))
			})
		}
		check("Load", func(l *loan) {
			var all, own []api.Term
			for n := range w.b.Len() {
				all, own = append(all, l.term(get(t, w.b, n))), append(own, get(t, w.b, n))
			}
			names := w.b.Declared()
			var e api.Errno
			lent, e = terms.Load(all, l.params(names))
			wantErr(t, "Load", e, api.OK)
			w.b, e = terms.Load(own, names)
			wantErr(t, "Load", e, api.OK)
		})
	}
}

// Nodes, terms and parameters are as they were when a call has answered, and so is the room behind their ends.
func TestR3NothingIsChanged(t *testing.T) {
	r := rand.New(rand.NewSource(3))
	w := newWalk(t, r, 6)
	for _, p := range params("xR", "yR", "pB", "qB") {
		w.declare(p.Name, p.Sort)
	}
	for range 3000 {
		l := &loan{}
		in, term, names := l.node(w.d.part(1+r.Intn(2), 3)), l.term(w.someTerm()), l.params(params("aR", "bB"))
		var all []api.Term
		for _, one := range base() {
			all = append(all, l.term(one))
		}
		was, were := l.seen(), full(in)+told(term)+fmt.Sprint(names)
		w.b.Read(in)
		w.b.Define("f", names, api.SortReal, in)
		w.b.Add(term)
		terms.Load(all, names)
		wantText(t, "what was handed in", l.seen(), was)
		wantText(t, "what was handed in", full(in)+told(term)+fmt.Sprint(names), were)
		w.b.Forget(4)
	}
}

// Answers are new memory: their owner may write over them, and over the room behind their ends, and nothing else changes.
func TestR3Answers(t *testing.T) {
	b := readBank(t)
	n := read(t, b, "(* (- 1.5) (ite p x (+ y 2)))")
	was := dump(b)
	for range 2 {
		for n := range b.Len() {
			first, second := get(t, b, n), get(t, b, n)
			want := told(second)
			spoilTerm(first)
			wantText(t, "another answer", told(second), want)
		}
		names := b.Declared()
		again := b.Declared()
		for i := range names[:cap(names)] {
			names[:cap(names)][i] = api.Param{Name: "spoilt", Sort: 77}
		}
		wantText(t, "another answer", fmt.Sprint(again), fmt.Sprint(params("xR", "yR", "pB", "qB")))
		wantText(t, "the bank", dump(b), was)
	}
	wantText(t, "Print", text(t, b, n), "(* (- (/ 3.0 2.0)) (ite p x (+ y 2.0)))")
}

// No answer shares memory with what was handed in, nor two answers with one another: parts, lists, texts.
func TestR3PartsAreNewMemory(t *testing.T) {
	b := readBank(t)
	for _, text := range []string{"(and p (or nobody p))", "(+ x (* y (- x) 2))", "(let ((a 1) (a 2)) a)", "nobody", "(! p :named x)", "((a b) (c))", "(! (and) :named)"} {
		l := &loan{}
		in := l.node(node(text))
		_, e, part := b.Read(in)
		want, wanted := full(part), e
		again, _, other := b.Read(in)
		e, body := b.Define("h", nil, api.SortBool, in)
		bodyWas := full(body)
		l.spoil()
		wantText(t, "the part", full(part), want)
		wantText(t, "another part", full(other), want)
		wantText(t, "a body's part", full(body), bodyWas)
		wantNumber(t, "Read", again, 0)
		if wanted == api.OK || e == api.OK {
			t.Fatalf("%s: %d, %d", text, wanted, e)
		}
		spoilNodes([]api.Node{part})
		wantText(t, "another part", full(other), want)
	}
}

// Names and texts that are told are no pieces of what the bank keeps, nor of one another.
func TestR3TextsAreNewMemory(t *testing.T) {
	b := terms.New()
	n, e := b.Declare("constant", api.SortReal)
	wantErr(t, "Declare", e, api.OK)
	s, e := b.Stand(n)
	wantErr(t, "Stand", e, api.OK)
	seen := map[*byte]string{}
	tell := func(what, text string) {
		t.Helper()
		at := unsafe.StringData(text)
		if first, twice := seen[at]; twice {
			t.Fatalf("%s and %s are one text", first, what)
		}
		seen[at] = what
	}
	for i := range 3 {
		tell(fmt.Sprint("Get ", i), get(t, b, n).Name)
		tell(fmt.Sprint("Get of a stand ", i), get(t, b, s).Name)
		tell(fmt.Sprint("Declared ", i), b.Declared()[0].Name)
		tell(fmt.Sprint("Print ", i), text(t, b, n))
		tell(fmt.Sprint("Print of a stand ", i), text(t, b, s))
	}
}

// Banks that are asked in turn, or beside one another, tell what they tell alone.
func TestR4BanksKnowNothingOfOneAnother(t *testing.T) {
	alone := make([]string, 6)
	for i := range alone {
		w := newWalk(t, rand.New(rand.NewSource(int64(i))), 30)
		for range 80 {
			w.step()
		}
		alone[i] = dump(w.b)
	}
	var in [6]*walk
	for i := range in {
		in[i] = newWalk(t, rand.New(rand.NewSource(int64(i))), 30)
	}
	for range 80 {
		for _, w := range in {
			w.step()
		}
	}
	for i, w := range in {
		wantText(t, "in turn", dump(w.b), alone[i])
	}
	var wait sync.WaitGroup
	for i := range alone {
		wait.Go(func() {
			w := newWalk(t, rand.New(rand.NewSource(int64(i))), 30)
			for range 80 {
				w.step()
			}
			if got := dump(w.b); got != alone[i] {
				t.Errorf("beside others: %s, not %s", got, alone[i])
			}
		})
	}
	wait.Wait()
}

// Calls that only tell change nothing, and the same call answers the same.
func TestR4TheSameAgain(t *testing.T) {
	w := newWalk(t, rand.New(rand.NewSource(44)), 20)
	for range 300 {
		w.step()
		was := dump(w.b)
		for n := -1; n <= w.b.Len(); n++ {
			first, e := w.b.Print(n)
			second, f := w.b.Print(n)
			wantText(t, "Print", second, first)
			wantErr(t, "Print", f, e)
		}
		in := w.d.part(1+w.d.Intn(2), 2)
		if _, e, part := w.b.Read(in); e != api.OK {
			_, f, again := w.b.Read(in)
			wantErr(t, "Read", f, e)
			wantText(t, "Read", full(again), full(part))
			wantText(t, "the bank", dump(w.b), was)
			continue
		}
		_, wrong := w.m.read(in)
		wantErr(t, "Read in the model", wrong.err, api.OK)
	}
}
