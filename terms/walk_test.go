package terms_test

import (
	"fmt"
	"math/rand"
	"slices"
	"testing"

	"fulcrum/api"
	"fulcrum/terms"
)

// walk is a bank and the model of it, of which the same is asked.
type walk struct {
	t *testing.T
	b *terms.Bank
	m *model
	d *draw
	// how often what was asked was right and wrong, of each error
	seen map[string]int
}

func newWalk(t *testing.T, r *rand.Rand, odd int) *walk {
	m := newModel()
	return &walk{t: t, b: terms.New(), m: m, d: &draw{Rand: r, m: m, odd: odd}, seen: map[string]int{}}
}

func (w *walk) saw(what string, e api.Errno) { w.seen[fmt.Sprint(what, " ", e)]++ }

// same holds all that the bank tells against the model; from is a term from which on terms are looked at.
func (w *walk) same(what string, from int) {
	w.t.Helper()
	wantNumber(w.t, what+": Len", w.b.Len(), w.m.len())
	wantNumber(w.t, what+": Names", w.b.Names(), len(w.m.things))
	wantText(w.t, what+": Declared", fmt.Sprint(w.b.Declared()), fmt.Sprint(w.m.declared()))
	for n := from; n < w.m.len(); n++ {
		wantTerm(w.t, w.b, n, w.m.get(n))
	}
}

func (w *walk) read(n api.Node) {
	w.t.Helper()
	here := w.m.len()
	what := "Read of " + printed(n)
	want, wrong := w.m.read(n)
	v, e, part := w.b.Read(n)
	wantErr(w.t, what, e, wrong.err)
	wantNumber(w.t, what, v, want)
	wantText(w.t, what+": the part", full(part), full(wrong.part))
	w.same(what, here)
	w.saw("Read", e)
}

func (w *walk) declare(name string, sort int) {
	w.t.Helper()
	here := w.m.len()
	what := fmt.Sprintf("Declare of %q %d", name, sort)
	want, wanted := w.m.declare(name, sort)
	v, e := w.b.Declare(name, sort)
	wantErr(w.t, what, e, wanted)
	wantNumber(w.t, what, v, want)
	w.same(what, here)
	w.saw("Declare", e)
}

func (w *walk) define(name string, l []api.Param, sort int, body api.Node) {
	w.t.Helper()
	here := w.m.len()
	what := fmt.Sprintf("Define of %q %v %d %s", name, l, sort, printed(body))
	wanted, want := w.m.define(name, l, sort, body)
	e, part := w.b.Define(name, l, sort, body)
	wantErr(w.t, what, e, wanted)
	wantText(w.t, what+": the part", full(part), full(want))
	w.same(what, here)
	w.saw("Define", e)
}

func (w *walk) add(t api.Term) {
	w.t.Helper()
	here := w.m.len()
	what := fmt.Sprintf("Add of %+v", t)
	want, wanted := w.m.add(t)
	v, e := w.b.Add(t)
	wantErr(w.t, what, e, wanted)
	wantNumber(w.t, what, v, want)
	w.same(what, here)
	w.saw("Add", e)
}

func (w *walk) stand(n int) {
	w.t.Helper()
	here := w.m.len()
	what := fmt.Sprint("Stand of ", n)
	want, wanted := w.m.stand(n)
	v, e := w.b.Stand(n)
	wantErr(w.t, what, e, wanted)
	wantNumber(w.t, what, v, want)
	w.same(what, here)
	w.saw("Stand", e)
}

func (w *walk) forget(names int) {
	w.t.Helper()
	what := fmt.Sprint("Forget of ", names)
	wantErr(w.t, what, w.b.Forget(names), w.m.forget(names))
	w.same(what, w.m.len())
}

func (w *walk) print(n int) {
	w.t.Helper()
	s, e := w.b.Print(n)
	if n < 0 || n >= w.m.len() {
		wantErr(w.t, "Print", e, api.ErrTerm)
		wantText(w.t, "Print", s, "")
		return
	}
	wantErr(w.t, "Print", e, api.OK)
	wantText(w.t, "Print", s, w.m.print(n))
}

// someTerm is a term with kids that are mostly there.
func (w *walk) someTerm() api.Term {
	d := w.d
	t := api.Term{Kind: d.Intn(19) - 1, Sort: d.Intn(4), Name: d.pick("x", "p", "f", "nobody", "\x000", ""), Number: []api.Rat{{}, rat("2"), rat("-1/2"), {Num: api.Int{Neg: true, Abs: api.Nat{6, 0}}, Den: api.Nat{4}}}[d.Intn(4)]}
	sort := 1 + d.Intn(2)
	for range d.Intn(5) {
		kid := d.Intn(w.m.len()+4) - 2
		for range 4 {
			if kid < 0 || kid >= w.m.len() || w.m.at(kid).sort != sort {
				kid = d.Intn(w.m.len()+2) - 1
			}
		}
		t.Kids = append(t.Kids, kid)
	}
	return t
}

func (w *walk) someParams() []api.Param {
	var out []api.Param
	for range w.d.Intn(4) {
		out = append(out, api.Param{Name: w.d.pick("a", "b", "c", "x", "p", "f", "g", "k 1", "a", "d"), Sort: 1 + w.d.Intn(2)})
	}
	if w.d.Intn(30) == 0 {
		out = append(out, api.Param{Name: w.d.pick("", "a|b", "and", "let", "e"), Sort: w.d.Intn(4)})
	}
	return out
}

// step asks for something.
func (w *walk) step() {
	w.t.Helper()
	d := w.d
	switch d.Intn(20) {
	case 0, 1:
		w.declare(d.pick("x", "y", "z", "p", "q", "k 1", "é", "u", "v", "w", "", "and", "a|b", "_", "true", "f"), []int{0, 1, 1, 1, 1, 2, 2, 2, 2, 3}[d.Intn(10)])
	case 2, 3:
		l := w.someParams()
		sort := 1 + d.Intn(2)
		d.bound = slices.Clone(l)
		body := d.part(sort, d.Intn(3))
		d.bound = nil
		if len(w.m.things) < 25 { // bodies of bodies grow fast
			w.define(d.pick("f", "g", "h", "m", "i", "j", "l", "x", "or", "|"), l, sort, body)
		}
	case 4, 5:
		w.add(w.someTerm())
	case 6:
		w.stand(d.Intn(w.m.len()+3) - 1)
	case 7:
		w.forget(len(w.m.things) + 1 - d.Intn(4)*d.Intn(4))
	case 8, 9:
		w.print(d.Intn(w.m.len()+3) - 1)
	default:
		w.read(d.part(1+d.Intn(2), d.Intn(5)))
	}
}

// Whatever is asked, in any order, is answered as the chapter's words say: each number, each part, each term.
func TestB1ToB5AgainstTheWords(t *testing.T) {
	seen := map[string]int{}
	for seed := range 400 {
		w := newWalk(t, rand.New(rand.NewSource(int64(seed))), []int{8, 20, 60, 400}[seed%4])
		w.seen = seen
		for range 120 {
			w.step()
		}
		w.same("all", 0)
	}
	for _, want := range []string{
		"Read 0", "Read 140", "Read 141", "Read 142", "Read 143", "Read 144", "Read 145", "Read 147", "Read 122", "Define 0", "Define 140", "Define 141", "Define 142", "Define 143", "Define 144", "Define 145", "Define 147", "Define 122",
		"Add 0", "Add 140", "Add 141", "Add 143", "Add 146", "Add 147", "Declare 0", "Declare 122", "Declare 142", "Declare 143", "Stand 0", "Stand 146",
	} {
		if seen[want] < 4 {
			t.Errorf("%s was drawn %d times: %v", want, seen[want], seen)
		}
	}
}

// What Load is given of a bank makes a bank that goes on in the same way.
func TestB6LoadGoesOn(t *testing.T) {
	for seed := range 60 {
		w := newWalk(t, rand.New(rand.NewSource(int64(1000+seed))), 60)
		for range 60 {
			w.step()
		}
		var all []api.Term
		for n := range w.b.Len() {
			all = append(all, get(t, w.b, n))
		}
		b, e := terms.Load(all, w.b.Declared())
		wantErr(t, "Load", e, api.OK)
		for n := range w.b.Len() {
			wantText(t, "Print", text(t, b, n), text(t, w.b, n))
		}
		w.b = b
		w.m.things = slices.DeleteFunc(w.m.things, func(i item) bool { return !i.constant })
		w.same("Load", 0)
		for range 60 {
			w.step()
		}
	}
}

// Read of what Print says is the same term, if Read made it and what it names is there.
func TestB8ThereAndBack(t *testing.T) {
	for seed := range 80 {
		w := newWalk(t, rand.New(rand.NewSource(int64(2000+seed))), 1000)
		for _, p := range params("xR", "yR", "pB", "qB", "k 1R") {
			w.declare(p.Name, p.Sort)
		}
		w.define("f", params("aR", "bB"), api.SortReal, node("(ite b (+ a x) (* 2 a))"))
		for range 40 {
			here := w.m.len()
			w.read(w.d.part(1+w.d.Intn(2), 5))
			for n := here; n < w.b.Len(); n++ {
				s := text(t, w.b, n)
				wantNumber(t, s, read(t, w.b, s), n)
			}
			w.m.terms = nil // the texts' own numbers have come in
			for n := range w.b.Len() {
				w.m.terms = append(w.m.terms, w.m.entryOf(get(t, w.b, n)))
			}
		}
	}
}

// Kids are ahead, no term is there twice, and numbers stay.
func TestB7EachOnce(t *testing.T) {
	w := newWalk(t, rand.New(rand.NewSource(7)), 40)
	var was []string
	for range 600 {
		w.step()
		places := map[string]int{}
		for n := range w.b.Len() {
			term := get(t, w.b, n)
			for _, kid := range term.Kids {
				if kid < 0 || kid >= n {
					t.Fatalf("the term %d has the kid %d", n, kid)
				}
			}
			s := told(term)
			if first, twice := places[s]; twice {
				t.Fatalf("%s is %d and %d", s, first, n)
			}
			places[s] = n
			if n < len(was) && was[n] != s {
				t.Fatalf("the term %d was %s, and is %s", n, was[n], s)
			}
			if n == len(was) {
				was = append(was, s)
			}
		}
		if w.b.Len() < len(was) {
			t.Fatalf("%d terms, then %d", len(was), w.b.Len())
		}
	}
	if len(was) < 200 {
		t.Fatalf("%d terms alone", len(was))
	}
}
