package simplify_test

import (
	"fmt"
	"math"
	"math/rand"
	"slices"
	"sync"
	"testing"

	"fulcrum/api"
	"fulcrum/simplify"
	"fulcrum/terms"
)

// loan is memory that is lent to a call, and written over when the call has answered.
type loan struct {
	limbs []api.Nat
	forms []api.Form
}

// nat has room behind its end, in which there is something.
func (l *loan) nat(a api.Nat) api.Nat {
	out := append(append(api.Nat{}, a...), 5, 6, 7)
	l.limbs = append(l.limbs, out)
	return out[:len(a)]
}

func (l *loan) rat(r api.Rat) api.Rat {
	return api.Rat{Num: api.Int{Neg: r.Num.Neg, Abs: l.nat(r.Num.Abs)}, Den: l.nat(r.Den)}
}

func (l *loan) affine(f api.Affine) api.Affine {
	var all api.Form
	for _, part := range f.Form {
		all = append(all, api.Mono{Var: part.Var, Coef: l.rat(part.Coef)})
	}
	all = append(all, api.Mono{Var: 1, Coef: l.rat(rat("7"))}, api.Mono{Var: -9})
	l.forms = append(l.forms, all)
	return api.Affine{Form: all[:len(f.Form)], Const: l.rat(f.Const)}
}

// seen is all that was lent, with the room behind each list's end.
func (l *loan) seen() string {
	out := fmt.Sprint(l.limbs)
	for _, f := range l.forms {
		out += tellAffine(api.Affine{Form: f})
	}
	return out
}

func (l *loan) spoil() {
	for _, limbs := range l.limbs {
		for i := range limbs {
			limbs[i] = 77
		}
	}
	for _, f := range l.forms {
		for i := range f {
			f[i] = api.Mono{Var: 77}
		}
	}
}

// spoilAffine writes over an answer, and over the room behind its lists' ends.
func spoilAffine(f api.Affine) {
	spoilRat(f.Const)
	for i := range f.Form[:cap(f.Form)] {
		spoilRat(f.Form[:cap(f.Form)][i].Coef)
		f.Form[:cap(f.Form)][i] = api.Mono{Var: 77}
	}
}

func spoilRat(r api.Rat) {
	for _, limbs := range []api.Nat{r.Num.Abs, r.Den} {
		for i := range limbs[:cap(limbs)] {
			limbs[:cap(limbs)][i] = 77
		}
	}
}

func spoilInts(l []int) {
	for i := range l[:cap(l)] {
		l[:cap(l)][i] = -77
	}
}

// A panic would end the test, and so would a call that does not end: any arguments, on any bank; beside an error there is nothing.
func TestR1AnyArguments(t *testing.T) {
	r := rand.New(rand.NewSource(16))
	ints := []int{0, 1, -1, 2, 3, 7, 12, 20, 40, 99, 1 << 18, 1 << 40, math.MaxInt, math.MinInt}
	rats := []api.Rat{{}, {Den: api.Nat{1}}, {Num: api.Int{Neg: true}}, {Num: api.Int{Abs: api.Nat{0, 0, 0}}, Den: api.Nat{0}}, {Num: api.Int{Abs: api.Nat{0, 0, math.MaxUint32}}, Den: api.Nat{0, math.MaxUint32}}, rat("1"), rat("-2/3")}
	banks := append(unmade(), terms.New(), draw(t, 1, true).bank, draw(t, 2, false).bank, draw(t, 3, false).bank)
	counts := map[api.Errno]int{}
	wantNothing := func(what string, nothing bool, e api.Errno) {
		t.Helper()
		counts[e]++
		if e != api.OK && !nothing {
			t.Fatalf("%s: something beside the error %d", what, e)
		}
	}
	for range 20000 {
		b, n := banks[r.Intn(len(banks))], ints[r.Intn(len(ints))]
		if r.Intn(2) == 0 {
			n = r.Intn(80)
		}
		f := api.Affine{Const: rats[r.Intn(len(rats))]}
		for range r.Intn(4) {
			f.Form = append(f.Form, api.Mono{Var: ints[r.Intn(len(ints))], Coef: rats[r.Intn(len(rats))]})
		}
		got, e := simplify.Affine(b, n)
		wantNothing("Affine", tellAffine(got) == tellAffine(api.Affine{}), e)
		m, e := simplify.Real(b, f)
		wantNothing("Real", m == 0, e)
		is, e := simplify.Pure(b, n)
		wantNothing("Pure", !is, e)
		l, e := simplify.Lift(b, n)
		wantNothing("Lift", tellLifted(l) == tellLifted(api.Lifted{}), e)
		is, e = simplify.Is(b, n)
		wantNothing("Is", !is, e)
		m, e = simplify.Normal(b, n)
		wantNothing("Normal", m == 0, e)
		m, e = simplify.Negate(b, n)
		wantNothing("Negate", m == 0, e)
	}
	for _, e := range []api.Errno{api.OK, api.ErrTerm, api.ErrSort, api.ErrPure, api.ErrVar} {
		if counts[e] < 100 {
			t.Errorf("the error %d was seen %d times alone", e, counts[e])
		}
	}
}

// An error that is not ErrFull leaves the bank as it is.
func TestR2NothingHasChanged(t *testing.T) {
	errors := 0
	for seed := range int64(60) {
		w := draw(t, seed, false)
		size := w.bank.Len()
		wantKept := func(what string, do func() api.Errno) {
			t.Helper()
			was := w.bank.Len()
			if e := do(); e != api.OK {
				wantInt(t, fmt.Sprint("the bank's terms behind the error ", e, " of ", what), w.bank.Len(), was)
				errors++
			}
		}
		for n := -1; n <= size; n++ {
			wantKept("Normal", func() api.Errno { _, e := simplify.Normal(w.bank, n); return e })
			wantKept("Negate", func() api.Errno { _, e := simplify.Negate(w.bank, n); return e })
			wantKept("Lift", func() api.Errno { _, e := simplify.Lift(w.bank, n); return e })
			wantKept("Real", func() api.Errno { _, e := simplify.Real(w.bank, w.someForm()); return e })
		}
	}
	if errors < 1000 {
		t.Fatal("so few errors", errors)
	}
}

// Affine, Pure and Is put nothing into the bank, whatever they are asked; no call declares or forgets anything.
func TestR3WhatTheBankKeeps(t *testing.T) {
	for seed := range int64(60) {
		w := draw(t, seed, false)
		was := dump(w.bank)
		size, names := w.bank.Len(), fmt.Sprint(w.bank.Names(), w.bank.Declared())
		for n := -1; n <= size; n++ {
			simplify.Affine(w.bank, n)
			simplify.Pure(w.bank, n)
			simplify.Is(w.bank, n)
		}
		wantText(t, "the bank", dump(w.bank), was)
		w.answers(size-1, []api.Affine{w.someForm(), w.someForm()})
		wantText(t, "its names", fmt.Sprint(w.bank.Names(), w.bank.Declared()), names)
		var all []api.Term
		for n := range size {
			all = append(all, get(t, w.bank, n))
		}
		again, e := terms.Load(all, w.bank.Declared())
		wantErr(t, "Load", e, api.OK)
		wantText(t, "the terms that there were", dump(again), was)
	}
}

// What is handed in is neither changed nor kept: it is written over when the call has answered.
func TestR3WhatIsHandedIn(t *testing.T) {
	for seed := range int64(100) {
		w, twin := draw(t, seed, true), draw(t, seed, true)
		for range 20 {
			f := w.someForm()
			lent := &loan{}
			given := lent.affine(f)
			had := lent.seen()
			n, e := simplify.Real(w.bank, given)
			wantText(t, "what was handed in", lent.seen(), had)
			lent.spoil()
			m, want := simplify.Real(twin.bank, f)
			wantErr(t, "Real", e, want)
			wantInt(t, "Real", n, m)
			wantText(t, "the bank", dump(w.bank), dump(twin.bank))
		}
	}
}

// An answer is its owner's: what is done to it, and to the room behind its end, changes neither the bank nor another answer, nor what is answered then.
func TestR3Answers(t *testing.T) {
	for seed := range int64(60) {
		w := draw(t, seed, seed%2 == 0)
		size := w.bank.Len()
		forms := []api.Affine{w.someForm(), w.someForm()}
		w.answers(size-1, forms) // from now on nothing is new
		want, was := fmt.Sprint(w.answers(size-1, forms)...), dump(w.bank)
		for n := range size {
			first, _ := simplify.Affine(w.bank, n)
			second, _ := simplify.Affine(w.bank, n)
			said := tellAffine(second)
			spoilAffine(first)
			wantText(t, "another answer", tellAffine(second), said)
			one, _ := simplify.Lift(w.bank, n)
			other, _ := simplify.Lift(w.bank, n)
			said = tellLifted(other)
			spoilInts(one.Stands)
			spoilInts(one.Fixed)
			wantText(t, "another answer", tellLifted(other), said)
		}
		wantText(t, "the bank", dump(w.bank), was)
		wantText(t, "what is answered then", fmt.Sprint(w.answers(size-1, forms)...), want)
	}
}

// No two lists of one answer share memory.
func TestR3ListsOfOneAnswer(t *testing.T) {
	b := bank(t)
	n := read(t, b, "(+ (* (/ 1 3) (+ x y z (/ 1 3))) (* (/ 2 3) (+ x y z (/ 1 3))) 7)")
	f, e := simplify.Affine(b, n)
	wantErr(t, "Affine", e, api.OK)
	for i := range f.Form {
		others := api.Affine{Form: append(slices.Clone(f.Form[:i]), f.Form[i+1:]...), Const: f.Const}
		said := tellAffine(others)
		spoilRat(f.Form[i].Coef)
		wantText(t, "the other numbers", tellAffine(others), said)
	}
	l := lift(t, b, read(t, b, "(< (ite p x y) (ite q x y))"))
	said := fmt.Sprint(l.Fixed)
	spoilInts(l.Stands)
	wantText(t, "the other list", fmt.Sprint(l.Fixed), said)
}

// nil and the empty list are the same.
func TestR3NilIsTheEmptyList(t *testing.T) {
	b := bank(t)
	for _, constant := range []api.Rat{{}, {Num: api.Int{Abs: api.Nat{}}, Den: api.Nat{}}, {Den: api.Nat{1}}} {
		for _, f := range []api.Form{nil, {}} {
			wantReal(t, b, api.Affine{Form: f, Const: constant}, "0.0")
		}
	}
	wantReal(t, b, api.Affine{Form: api.Form{{Var: 99, Coef: api.Rat{Num: api.Int{Abs: api.Nat{}}, Den: api.Nat{}}}}}, "0.0")
}

// Two banks with the same calls ahead tell the same, in turn with others or beside them; the order in which maps are gone through is not seen.
func TestR4BanksKnowNothingOfOneAnother(t *testing.T) {
	const banks = 6
	var alone [banks]string
	tell := func(seed int) string {
		w := draw(t, int64(seed), seed%2 == 0)
		size := w.bank.Len()
		forms := []api.Affine{w.someForm(), w.someForm(), w.someForm()}
		return fmt.Sprint(w.answers(size-1, forms)...) + dump(w.bank)
	}
	for i := range alone {
		alone[i] = tell(i)
	}
	for range 2 {
		for i := range alone {
			wantText(t, "in turn", tell(i), alone[i])
		}
	}
	var wait sync.WaitGroup
	for i := range 3 * banks {
		wait.Go(func() {
			if got := tell(i % banks); got != alone[i%banks] {
				t.Errorf("beside others: %s, not %s", got, alone[i%banks])
			}
		})
	}
	wait.Wait()
}

// The same call again answers the same and puts nothing more into the bank; so it does when the bank has grown.
func TestR4TheSameAgain(t *testing.T) {
	for seed := range int64(60) {
		w := draw(t, seed, seed%2 == 0)
		size := w.bank.Len()
		forms := []api.Affine{w.someForm(), w.someForm()}
		first := fmt.Sprint(w.answers(size-1, forms)...)
		was := dump(w.bank)
		wantText(t, "again", fmt.Sprint(w.answers(size-1, forms)...), first)
		wantText(t, "the bank", dump(w.bank), was)
		for range 20 {
			w.bank.Add(w.someTerm())
		}
		wantErr(t, "Forget", w.bank.Forget(0), api.OK)
		wantText(t, "in a bank that has grown", fmt.Sprint(w.answers(size-1, forms)...), first)
	}
}
