package analyse_test

import (
	"fmt"
	"math"
	"math/rand"
	"slices"
	"sync"
	"testing"

	"fulcrum/analyse"
	"fulcrum/api"
)

// The rules R1 to R4 of DOC.md in this layer, over worlds that are drawn (package rules has them over values that are not).

// asked is what a world and the other arguments lead to, in all calls.
type asked struct {
	w        world
	conflict int
	l        api.Learnt
	c        api.Clause
	chain    []int
	lit      int
}

type answers struct {
	check, first, less, glue, replay, final api.Errno
	a, b                                    api.Learnt
	levels                                  int
	clause                                  api.Clause
	leans                                   []int
}

func (q asked) ask() answers {
	var out answers
	out.check = analyse.Check(q.w.clauses, q.w.marks)
	out.a, out.first = analyse.First(q.w.clauses, q.w.marks, q.conflict)
	out.b, out.less = analyse.Less(q.w.clauses, q.w.marks, q.l)
	out.levels, out.glue = analyse.Glue(q.w.marks, q.c)
	out.clause, out.replay = analyse.Replay(q.w.clauses, q.chain)
	out.leans, out.final = analyse.Final(q.w.clauses, q.w.marks, q.lit)
	return out
}

// someAsked is mostly such as is answered without an error.
func someAsked(r *rand.Rand) asked {
	q := asked{w: someWorld(r)}
	q.l = q.w.someLesson(r)
	for n := range q.w.clauses {
		if l, e := analyse.First(q.w.clauses, q.w.marks, n); e == api.OK {
			q.conflict, q.chain = n, l.Chain
			q.c = l.Clause
			if r.Intn(2) == 0 {
				q.l = l
			}
			break
		}
	}
	if n := len(q.w.marks); n > 0 {
		q.lit = q.w.marks[r.Intn(n)].Lit
	}
	if r.Intn(5) == 0 {
		q.w = spoilt(r, q.w)
	}
	return q
}

func TestR1AnyArguments(t *testing.T) {
	r := rand.New(rand.NewSource(1))
	ints := []int{0, 1, -1, 2, -2, 3, -3, 4, 5, math.MaxInt, -math.MaxInt, math.MinInt, 1 << 32, -1 << 32, math.MaxInt32, math.MinInt32}
	some := func() int { return ints[min(r.Intn(len(ints)), r.Intn(len(ints)))] }
	list := func() []int {
		var out []int
		for range r.Intn(4) {
			out = append(out, some())
		}
		return out
	}
	for range 20000 {
		q := asked{conflict: some(), l: learnt(some(), list(), list()...), c: list(), chain: list(), lit: some()}
		for range r.Intn(5) {
			q.w.clauses = append(q.w.clauses, list())
		}
		level := 0
		for range r.Intn(5) {
			m := at(some(), some(), some())
			if r.Intn(3) > 0 {
				level++
				m.Level, m.Reason = level, -1
			}
			q.w.marks = append(q.w.marks, m)
		}
		q.ask()
	}
	for range 5000 {
		q := someAsked(r)
		q.conflict, q.l.Clause, q.lit = some(), append(q.l.Clause, some()), some()
		q.w = spoilt(r, spoilt(r, q.w))
		q.ask()
	}
}

func TestR2NothingBesideAnError(t *testing.T) {
	r := rand.New(rand.NewSource(2))
	wrong := 0
	for range 5000 {
		q := someAsked(r)
		q.lit *= 2*r.Intn(2) - 1
		a := q.ask()
		for e, nothing := range map[*api.Errno]bool{
			&a.first:  isSame(a.a, api.Learnt{}),
			&a.less:   isSame(a.b, api.Learnt{}),
			&a.glue:   a.levels == 0,
			&a.replay: len(a.clause) == 0,
			&a.final:  len(a.leans) == 0,
		} {
			if *e != api.OK {
				wrong++
				if !nothing {
					t.Fatalf("%+v of %+v", a, q)
				}
			}
		}
	}
	if wrong < 2000 {
		t.Fatal("few errors:", wrong)
	}
}

const behind = -77

// roomy is the same list with room behind its end, in which something else stands.
func roomy[T any](l []T, by T) []T {
	return append(append(make([]T, 0, len(l)+3), l...), by, by, by)[:len(l)]
}

func spoil[T any](l []T, by T) {
	l = l[:cap(l)]
	for i := range l {
		l[i] = by
	}
}

// lent is what is asked in lists with room behind their ends.
func (q asked) lent() asked {
	out := q
	out.w = world{roomy(q.w.clauses, api.Clause{behind}), roomy(q.w.marks, at(behind, behind, behind))}
	for n, c := range out.w.clauses {
		out.w.clauses[n] = roomy(c, behind)
	}
	out.l = api.Learnt{Clause: roomy(q.l.Clause, behind), Back: q.l.Back, Chain: roomy(q.l.Chain, behind)}
	out.c, out.chain = roomy(q.c, behind), roomy(q.chain, behind)
	return out
}

// whole tells all of what is asked, the room behind the ends too.
func (q asked) whole() string {
	out := fmt.Sprint(q.w.marks[:cap(q.w.marks)], q.w.clauses[:cap(q.w.clauses)], q.l.Clause[:cap(q.l.Clause)], q.l.Chain[:cap(q.l.Chain)], q.c[:cap(q.c)], q.chain[:cap(q.chain)], q.conflict, q.l.Back, q.lit)
	for _, c := range q.w.clauses {
		out += fmt.Sprint(c[:cap(c)])
	}
	return out
}

func TestR3WhatIsHandedInStays(t *testing.T) {
	r := rand.New(rand.NewSource(3))
	for range 3000 {
		q := someAsked(r)
		want := fmt.Sprint(q.ask())
		lent := q.lent()
		was := lent.whole()
		if got := fmt.Sprint(lent.ask()); got != want {
			t.Fatalf("what lies behind a list's end counts: %s, not %s", got, want)
		}
		if lent.whole() != was {
			t.Fatal("what was handed in is changed:", was, lent.whole())
		}
	}
}

func TestR3AnswersAreNewMemory(t *testing.T) {
	r := rand.New(rand.NewSource(33))
	for range 3000 {
		q := someAsked(r).lent()
		was, a, b := q.whole(), q.ask(), q.ask()
		want := fmt.Sprint(b)
		lists := [][]int{a.a.Clause, a.a.Chain, a.b.Clause, a.b.Chain, a.clause, a.leans}
		for i, l := range lists {
			spoil(l, 1000+i)
		}
		for i, l := range lists {
			if slices.ContainsFunc(l[:cap(l)], func(n int) bool { return n != 1000+i }) {
				t.Fatal("two lists that were told share memory")
			}
		}
		if q.whole() != was || fmt.Sprint(b) != want || fmt.Sprint(q.ask()) != want {
			t.Fatal("an answer shares memory with an argument, or with another answer")
		}
	}
}

// One list as several arguments is as several lists.
func TestR3SharedArguments(t *testing.T) {
	r := rand.New(rand.NewSource(333))
	for range 3000 {
		q := someAsked(r)
		q.l.Chain, q.c = q.chain, q.l.Clause
		if len(q.w.clauses) > 0 {
			q.w.clauses[0] = q.l.Clause
		}
		want := fmt.Sprint(q.lent().ask())
		if got := fmt.Sprint(q.ask()); got != want {
			t.Fatalf("shared: %s, not %s", got, want)
		}
	}
}

func TestR3NilIsTheEmptyList(t *testing.T) {
	a := asked{w: world{[]api.Clause{nil, {1}}, nil}, chain: []int{0}}
	b := asked{w: world{[]api.Clause{{}, {1}}, []api.Mark{}}, l: learnt(0, api.Clause{}, []int{}...), c: api.Clause{}, chain: []int{0}}
	for _, conflict := range []int{0, 1, 2} {
		a.conflict, b.conflict = conflict, conflict
		if x, y := fmt.Sprint(a.ask()), fmt.Sprint(b.ask()); x != y {
			t.Fatal("nil is not the empty list:", x, y)
		}
	}
	a.w.clauses, b.w.clauses, a.chain, b.chain = nil, []api.Clause{}, nil, []int{}
	if x, y := fmt.Sprint(a.ask()), fmt.Sprint(b.ask()); x != y {
		t.Fatal("nil is not the empty list:", x, y)
	}
	w := steps()
	wantLess(t, w, api.Learnt{Clause: api.Clause{-8}}, learnt(0, api.Clause{-8}))
	wantLess(t, w, learnt(0, api.Clause{-8}, []int{}...), learnt(0, api.Clause{-8}))
}

// The same calls answer the same, whatever was asked ahead of them or is asked beside them.
func TestR4AnswersHangOnArgumentsAlone(t *testing.T) {
	r := rand.New(rand.NewSource(4))
	var all []asked
	var want []string
	for range 300 {
		q := someAsked(r)
		all = append(all, q)
		want = append(want, fmt.Sprint(q.ask()))
	}
	var beside sync.WaitGroup
	for k := range 8 {
		beside.Go(func() {
			for i := range all {
				i = (i*7 + k*31) % len(all)
				if got := fmt.Sprint(all[i].ask()); got != want[i] {
					t.Errorf("%s, then %s", want[i], got)
				}
			}
		})
	}
	beside.Wait()
}
