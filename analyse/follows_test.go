package analyse_test

import (
	"math/rand"
	"slices"
	"testing"

	"fulcrum/analyse"
	"fulcrum/api"
)

// The stage's theorem, over drawn clauses and marks.

// wantAsserting: a lesson is false, its first literal alone has the greatest level, all others have at most Back, and one of them has it; so behind going back it makes its first literal true.
func wantAsserting(t *testing.T, w world, l api.Learnt) {
	t.Helper()
	for i, lit := range l.Clause {
		switch {
		case w.place(lit) < 0:
			t.Fatal("not false:", lit, l)
		case w.level(lit) == 0:
			t.Fatal("of level 0:", lit, l)
		case i > 0 && w.level(lit) > l.Back:
			t.Fatal("above Back:", lit, l)
		case i > 0 && w.level(lit) >= w.level(l.Clause[0]):
			t.Fatal("not below the first one:", lit, l)
		case i > 1 && w.place(lit) >= w.place(l.Clause[i-1]):
			t.Fatal("not by falling places:", l)
		}
	}
	if l.Back < 0 || l.Back >= w.level(l.Clause[0]) {
		t.Fatal("Back is not below the greatest level:", l)
	}
	if len(l.Clause) == 1 && l.Back != 0 || len(l.Clause) > 1 && w.level(l.Clause[1]) != l.Back {
		t.Fatal("Back is more than it must be:", l)
	}
	kept := world{append(slices.Clone(w.clauses), l.Clause), slices.DeleteFunc(slices.Clone(w.marks), func(m api.Mark) bool { return m.Level > l.Back })}
	level := 0
	if n := len(kept.marks); n > 0 {
		level = kept.marks[n-1].Level
	}
	wantInt(t, "the level behind going back", level, l.Back)
	kept.marks = append(kept.marks, at(l.Clause[0], level, len(w.clauses)))
	wantErr(t, "Check of what the lesson forces", analyse.Check(kept.clauses, kept.marks), api.OK)
}

// wantReplayed: the chain leads to the literals of the clause.
func wantReplayed(t *testing.T, w world, l api.Learnt) {
	t.Helper()
	got, e := analyse.Replay(w.clauses, l.Chain)
	wantErr(t, "Replay", e, api.OK)
	want := slices.Clone(l.Clause)
	slices.Sort(want)
	slices.Sort(got)
	wantInts(t, "Replay", got, want...)
}

// wantFollows: no values make all clauses of the chain true and the lesson not.
func wantFollows(t *testing.T, w world, l api.Learnt) {
	t.Helper()
	var named []int
	for _, n := range l.Chain {
		for _, lit := range w.clauses[n] {
			named = add(named, max(lit, -lit))
		}
	}
	slices.Sort(named)
	for values := range 1 << len(named) {
		isTrue := func(lit int) bool {
			i, _ := slices.BinarySearch(named, max(lit, -lit))
			return (values>>i&1 > 0) == (lit > 0)
		}
		if !slices.ContainsFunc(l.Clause, isTrue) && !slices.ContainsFunc(l.Chain, func(n int) bool { return !slices.ContainsFunc(w.clauses[n], isTrue) }) {
			t.Fatal("does not follow:", l)
		}
	}
}

func TestL7Follows(t *testing.T) {
	r := rand.New(rand.NewSource(7))
	lessons, shorter := 0, 0
	for range 10000 {
		w := someWorld(r)
		for n := range w.clauses {
			l, e := analyse.First(w.clauses, w.marks, n)
			if e != api.OK {
				continue
			}
			lessons++
			wantInt(t, "the chain's first", l.Chain[0], n)
			wantAsserting(t, w, l)
			wantReplayed(t, w, l)
			less, e := analyse.Less(w.clauses, w.marks, l)
			wantErr(t, "Less of what First teaches", e, api.OK)
			wantAsserting(t, w, less)
			wantReplayed(t, w, less)
			if len(less.Chain) < 12 {
				wantFollows(t, w, less)
			}
			wantShorter(t, l, less)
			if len(less.Clause) < len(l.Clause) {
				shorter++
			}
		}
	}
	if lessons < 5000 || shorter < 300 {
		t.Fatal("few lessons, or few made less:", lessons, shorter)
	}
}

// wantShorter: Less takes literals away alone, and reasons stand behind the chain.
func wantShorter(t *testing.T, l, less api.Learnt) {
	t.Helper()
	var kept []int
	for _, lit := range l.Clause {
		if slices.Contains(less.Clause, lit) {
			kept = append(kept, lit)
		}
	}
	wantInts(t, "Less", less.Clause, kept...)
	wantInt(t, "the first one", less.Clause[0], l.Clause[0])
	wantInts(t, "the chain ahead", less.Chain[:len(l.Chain)], l.Chain...)
	if less.Back > l.Back || len(less.Chain)-len(l.Chain) < len(l.Clause)-len(less.Clause) {
		t.Fatal("Less:", l, less)
	}
}

// Less of drawn lessons, and of what it told, till nothing more goes: each time it is a lesson again.
func TestL7LessOnceMore(t *testing.T) {
	r := rand.New(rand.NewSource(77))
	some := 0
	for range 5000 {
		w := someWorld(r)
		l := w.someLesson(r)
		for len(l.Clause) > 0 {
			less, e := analyse.Less(w.clauses, w.marks, l)
			wantErr(t, "Less", e, api.OK)
			wantAsserting(t, w, less)
			wantShorter(t, w.told(l.Clause[0], l.Clause[1:], l.Chain), less)
			if len(less.Clause) == len(l.Clause) {
				break
			}
			l = less
			some++
		}
	}
	if some < 500 {
		t.Fatal("few made less:", some)
	}
}

// The first point through which all goes: no road of reasons leads to the conflict from a mark of the greatest level ahead of it but by it, and past each mark behind it one does.
func TestL7FirstPoint(t *testing.T) {
	r := rand.New(rand.NewSource(777))
	some := 0
	for range 5000 {
		w := someWorld(r)
		for n, c := range w.clauses {
			l, e := analyse.First(w.clauses, w.marks, n)
			if e != api.OK {
				continue
			}
			first := w.place(l.Clause[0])
			for i := first; i < len(w.marks) && w.marks[i].Level == w.marks[first].Level; i++ {
				if w.leadsPast(i, c) != (i > first) {
					t.Fatalf("the first point is at %d, not at %d: %v, the lesson %v, the clauses %v, the marks %v", i, first, c, l, w.clauses, w.marks)
				}
				some++
			}
		}
	}
	if some < 5000 {
		t.Fatal("few points:", some)
	}
}

// leadsPast tells whether a road of reasons leads to a clause from a mark that stands ahead of this one on its level, this one being none of it.
func (w world) leadsPast(past int, c api.Clause) bool {
	var road []int
	for _, lit := range c {
		road = add(road, w.place(lit))
	}
	for i := 0; i < len(road); i++ {
		m := w.marks[road[i]]
		if road[i] == past || m.Reason == -1 {
			continue
		}
		for _, lit := range without(w.clauses[m.Reason], m.Lit) {
			road = add(road, w.place(lit))
		}
	}
	return slices.ContainsFunc(road, func(i int) bool { return i < past && w.marks[i].Level == w.marks[past].Level })
}
