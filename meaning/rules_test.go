package meaning_test

import (
	"fmt"
	"math"
	"math/rand"
	"strings"
	"sync"
	"testing"
	"unsafe"

	"fulcrum/api"
	"fulcrum/meaning"
	"fulcrum/terms"
)

// Of the rules R1 to R4 what the tests of package rules, which call this layer's functions too, can't see: what a bank keeps, and the memory of texts.

// loan is memory that is lent to a call, and written over when the call has answered.
type loan struct {
	texts [][]byte
	limbs []api.Nat
	binds [][]api.Binding
	terms [][]int
}

func (l *loan) text(s string) string {
	room := []byte(s)
	l.texts = append(l.texts, room)
	return unsafe.String(unsafe.SliceData(room), len(room))
}

// nat has room behind its end, in which there is something.
func (l *loan) nat(a api.Nat) api.Nat {
	out := append(append(api.Nat{}, a...), 5, 6, 7)
	l.limbs = append(l.limbs, out)
	return out[:len(a)]
}

func (l *loan) bindings(in []api.Binding) []api.Binding {
	out := make([]api.Binding, 0, len(in)+2)
	for _, b := range in {
		b.Name = l.text(b.Name)
		b.Value.Real = api.Rat{Num: api.Int{Neg: b.Value.Real.Num.Neg, Abs: l.nat(b.Value.Real.Num.Abs)}, Den: l.nat(b.Value.Real.Den)}
		out = append(out, b)
	}
	all := append(out, binds("x=77", "behind=true")...)
	l.binds = append(l.binds, all)
	return all[:len(in)]
}

func (l *loan) list(in []int) []int {
	out := append(append([]int{}, in...), 0, 1, -9)
	l.terms = append(l.terms, out)
	return out[:len(in)]
}

// seen is all that was lent, with the room behind each list's end.
func (l *loan) seen() string {
	var out strings.Builder
	for _, all := range l.binds {
		out.WriteString(toldAll(all[:cap(all)]))
	}
	fmt.Fprintf(&out, "%q %v %v", l.texts, l.limbs, l.terms)
	return out.String()
}

// spoil writes over all that was lent.
func (l *loan) spoil() {
	for _, room := range l.texts {
		for i := range room {
			room[i] = '?'
		}
	}
	for _, limbs := range l.limbs {
		for i := range limbs {
			limbs[i] = 77
		}
	}
	for _, all := range l.binds {
		spoilBindings(all)
	}
	for _, all := range l.terms {
		for i := range all {
			all[i] = -77
		}
	}
}

func spoilBindings(l []api.Binding) {
	l = l[:cap(l)]
	for i := range l {
		spoilValue(l[i].Value)
		l[i] = api.Binding{Name: "spoilt", Value: api.Value{Sort: 77, Bool: true}}
	}
}

func spoilValue(v api.Value) {
	for _, limbs := range []api.Nat{v.Real.Num.Abs, v.Real.Den} {
		for i := range limbs[:cap(limbs)] {
			limbs[:cap(limbs)][i] = 77
		}
	}
}

// A panic would end the test, and so would a call that does not end: any arguments, on any bank; beside an error there is nothing.
func TestR1AnyArguments(t *testing.T) {
	r := rand.New(rand.NewSource(15))
	ints := []int{0, 1, -1, 2, 7, 40, 99, 1 << 18, 1 << 40, math.MaxInt, math.MinInt}
	names := []string{"", "x", "p", "\x000", "\x00", "a|b", "\xff", "é", "and", strings.Repeat("z", 5000)}
	rats := []api.Rat{{}, {Den: api.Nat{1}}, {Num: api.Int{Neg: true}}, {Num: api.Int{Abs: api.Nat{0, 0, 0}}, Den: api.Nat{0}}, {Num: api.Int{Abs: api.Nat{0, 0, math.MaxUint32}}, Den: api.Nat{0, math.MaxUint32}}}
	banks := append(unmade(), terms.New(), draw(t, 1).bank, draw(t, 2).bank)
	for range 30000 {
		b := banks[r.Intn(len(banks))]
		var l []int
		for range r.Intn(4) {
			l = append(l, ints[r.Intn(len(ints))])
		}
		var v []api.Binding
		for range r.Intn(6) {
			v = append(v, api.Binding{Name: names[r.Intn(len(names))], Value: api.Value{Sort: ints[r.Intn(len(ints))], Bool: r.Intn(2) == 0, Real: rats[r.Intn(len(rats))]}})
		}
		n := ints[r.Intn(len(ints))]
		if got, e := meaning.Eval(b, n, v); e != api.OK && told(got) != told(api.Value{}) {
			t.Fatal("Eval", got, e)
		}
		if got, e := meaning.Names(b, n); e != api.OK && len(got) != 0 {
			t.Fatal("Names", got, e)
		}
		if got, e := meaning.Holds(b, l, v); e != api.OK && got {
			t.Fatal("Holds", got, e)
		}
		if got, e := meaning.Complete(b, l, v); e != api.OK && len(got) != 0 {
			t.Fatal("Complete", got, e)
		}
	}
}

// What is handed in is neither changed nor kept, and no answer shares its memory: it is written over when the calls have answered.
func TestR3WhatIsHandedIn(t *testing.T) {
	for seed := range int64(150) {
		w := draw(t, seed)
		for range 8 {
			v, list := w.someBinds(), w.someTerms()
			was := dump(w.bank)
			lent := &loan{}
			given, terms := lent.bindings(v), lent.list(list)
			had := lent.seen()
			all, e := meaning.Complete(w.bank, terms, given)
			holds, wrong := meaning.Holds(w.bank, terms, given)
			n := w.Intn(w.bank.Len())
			value, none := meaning.Eval(w.bank, n, given)
			wantText(t, "what was handed in", lent.seen(), had)
			lent.spoil()
			r := refOf(w.bank, v)
			wantText(t, "Complete", fmt.Sprint(toldAll(all), e), r.complete(list))
			wantText(t, "Holds", fmt.Sprint(holds, wrong), r.holds(list))
			wantText(t, "Eval", fmt.Sprint(told(value), none), r.eval(n))
			wantText(t, "the bank", dump(w.bank), was)
		}
	}
}

// An answer is its owner's: what is done to it, and to the room behind its end, changes neither the bank nor another answer, nor what is answered then.
func TestR3Answers(t *testing.T) {
	for seed := range int64(100) {
		w := draw(t, seed)
		v := w.someBinds()
		lists := [][]int{nil, w.someTerms(), w.kids(api.SortReal, 3), w.kids(api.SortBool, 3)}
		want, was, had := w.answers(v, lists), dump(w.bank), toldAll(v)
		for n := range w.bank.Len() {
			first, _ := meaning.Eval(w.bank, n, v)
			second, _ := meaning.Eval(w.bank, n, v)
			said := told(second)
			spoilValue(first)
			wantText(t, "another answer", told(second), said)
			spoilValue(second)
			names, _ := meaning.Names(w.bank, n)
			for i := range names[:cap(names)] {
				names[:cap(names)][i] = "spoilt"
			}
		}
		for _, l := range lists {
			first, _ := meaning.Complete(w.bank, l, v)
			second, _ := meaning.Complete(w.bank, l, v)
			said := toldAll(second)
			spoilBindings(first)
			wantText(t, "another answer", toldAll(second), said)
			spoilBindings(second)
		}
		wantText(t, "the bank", dump(w.bank), was)
		wantText(t, "the bindings", toldAll(v), had)
		wantText(t, "what is answered then", w.answers(v, lists), want)
	}
}

// No two numbers of one answer share memory, also where the same number is told several times.
func TestR3NumbersOfOneAnswer(t *testing.T) {
	b := bank(t)
	one := value("1/3")
	v := []api.Binding{{Name: "x", Value: one}, {Name: "w", Value: one}, {Name: "w", Value: one}}
	got, e := meaning.Complete(b, readAll(t, b, "(+ x y z)"), v)
	wantErr(t, "Complete", e, api.OK)
	for i := range got {
		said := toldAll(append(append([]api.Binding{}, got[:i]...), got[i+1:]...))
		spoilValue(got[i].Value)
		wantText(t, "the others", toldAll(append(append([]api.Binding{}, got[:i]...), got[i+1:]...)), said)
	}
}

// Names that are told are no pieces of one another, nor of what was handed in.
func TestR3TextsAreNewMemory(t *testing.T) {
	b := bank(t)
	n := read(t, b, "(and p (< x y))")
	v := binds("some name=1", "x=1")
	seen := map[*byte]bool{}
	tell := func(text string) {
		t.Helper()
		at := unsafe.StringData(text)
		if seen[at] {
			t.Fatalf("%q shares its memory", text)
		}
		seen[at] = true
	}
	for _, one := range v {
		tell(one.Name)
	}
	for range 3 {
		names, e := meaning.Names(b, n)
		wantErr(t, "Names", e, api.OK)
		for _, name := range names {
			tell(name)
		}
		all, e := meaning.Complete(b, []int{n, n}, v)
		wantErr(t, "Complete", e, api.OK)
		for _, one := range all {
			tell(one.Name)
		}
	}
}

// nil and the empty list are the same.
func TestR3NilIsTheEmptyList(t *testing.T) {
	b := bank(t)
	none, empty := []api.Binding(nil), []api.Binding{}
	for n := range b.Len() {
		counts := map[string]int{}
		wantText(t, "Eval", evalOf(b, n, empty, counts), evalOf(b, n, none, counts))
		wantText(t, "Holds", holdsOf(b, []int{n}, empty, counts), holdsOf(b, []int{n}, none, counts))
		wantText(t, "Complete", completeOf(b, []int{n}, empty, counts), completeOf(b, []int{n}, none, counts))
	}
	limbless := []api.Binding{{Name: "x", Value: api.Value{Sort: api.SortReal, Real: api.Rat{Num: api.Int{Abs: api.Nat{}}, Den: api.Nat{}}}}}
	wantSays(t, b, "x", limbless, "0")
	wantComplete(t, b, nil, limbless, binds("x=0"))
}

// Banks that are asked in turn, or beside one another, or one of them by several at a time, tell what they tell alone.
func TestR4BanksKnowNothingOfOneAnother(t *testing.T) {
	const banks = 5
	var worlds [banks]*world
	var given [banks][]api.Binding
	var lists [banks][][]int
	var alone [banks]string
	for i := range worlds {
		worlds[i] = draw(t, int64(i))
		given[i] = worlds[i].someBinds()
		lists[i] = [][]int{worlds[i].someTerms(), worlds[i].someTerms(), nil}
		alone[i] = worlds[i].answers(given[i], lists[i])
	}
	for range 3 {
		for i, w := range worlds {
			wantText(t, "in turn", w.answers(given[i], lists[i]), alone[i])
		}
	}
	var wait sync.WaitGroup
	for i := range 4 * banks {
		wait.Go(func() {
			at := i % banks
			if got := worlds[at].answers(given[at], lists[at]); got != alone[at] {
				t.Errorf("beside others: %s, not %s", got, alone[at])
			}
		})
	}
	wait.Wait()
}

// What is asked changes nothing, and what is put into the bank then changes nothing of what its terms say.
func TestR4TheSameAgain(t *testing.T) {
	for seed := range int64(60) {
		w := draw(t, seed)
		v, size := w.someBinds(), w.bank.Len()
		l := inRange(w.someTerms(), size)
		was := dump(w.bank)
		tell := func() string {
			counts := map[string]int{}
			out := holdsOf(w.bank, l, v, counts) + completeOf(w.bank, l, v, counts)
			for n := range size {
				out += evalOf(w.bank, n, v, counts) + namesOf(w.bank, n)
			}
			return out
		}
		first := tell()
		wantText(t, "again", tell(), first)
		wantText(t, "the bank", dump(w.bank), was)
		for range 20 {
			w.bank.Add(w.someTerm())
		}
		wantErr(t, "Forget", w.bank.Forget(0), api.OK)
		wantText(t, "in a bank that has grown", tell(), first)
	}
}

// inRange is those of the numbers that are terms.
func inRange(l []int, terms int) []int {
	var out []int
	for _, n := range l {
		if n >= 0 && n < terms {
			out = append(out, n)
		}
	}
	return out
}
