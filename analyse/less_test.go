package analyse_test

import (
	"math"
	"math/rand"
	"slices"
	"testing"

	"fulcrum/analyse"
	"fulcrum/api"
)

// steps is three of level 0 (1; 2 by 1; 3 by 2 and 1), then 4 decided and 5 by it, 6 decided and 7 by 6, 5 and 2, 8 by 7 and 3, then 9 decided and 10 by 9 and 8.
func steps() world {
	return world{
		[]api.Clause{{1}, {-1, 2}, {-2, -1, 3}, {5, -4}, {-6, 7, -5, -2}, {-7, 8, -3}, {10, -9, -8}},
		[]api.Mark{at(1, 0, 0), at(2, 0, 1), at(3, 0, 2), at(4, 1, -1), at(5, 1, 3), at(6, 2, -1), at(7, 2, 4), at(8, 2, 5), at(9, 3, -1), at(10, 3, 6)},
	}
}

func TestL3NoLesson(t *testing.T) {
	w := steps()
	for what, c := range map[string]api.Clause{
		"the empty clause":                            {},
		"a true literal":                              {-9, 8},
		"a true literal first":                        {9, -8},
		"an open literal":                             {-9, -11},
		"an open literal first":                       {11, -8},
		"0":                                           {-9, 0},
		"0 first":                                     {0},
		"the least int":                               {-9, math.MinInt},
		"the least int first":                         {math.MinInt},
		"the greatest int":                            {-9, math.MaxInt},
		"the first one twice":                         {-9, -9},
		"another one twice":                           {-9, -8, -8},
		"another one twice, apart":                    {-9, -8, -5, -8},
		"a literal and its opposite":                  {-9, -8, 8},
		"a literal of level 0":                        {-9, -3},
		"a literal of level 0 alone":                  {-3},
		"the first one of level 0":                    {-3, -8},
		"the first one not alone of the level":        {-10, -9},
		"the first one not alone, behind others":      {-9, -8, -10},
		"the first one below another":                 {-8, -9},
		"the first one below the last":                {-8, -4, -9},
		"the first one of one level with a lower one": {-8, -4, -6},
	} {
		for _, l := range []api.Learnt{{Clause: c}, learnt(2, c, 0, 1, 2)} {
			got, e := analyse.Less(w.clauses, w.marks, l)
			wantErr(t, what, e, api.ErrLearn)
			wantLearnt(t, what+", beside an error", got, api.Learnt{})
		}
	}
	_, e := analyse.Less(nil, nil, learnt(0, api.Clause{1}))
	wantErr(t, "without marks", e, api.ErrLearn)
}

func TestL3Less(t *testing.T) {
	for _, l := range []struct {
		what  string
		given api.Learnt
		want  api.Learnt
	}{
		{"one literal", learnt(0, api.Clause{-10}, 3), learnt(0, api.Clause{-10}, 3)},
		{"one decided literal", learnt(0, api.Clause{-9}, 3), learnt(0, api.Clause{-9}, 3)},
		{"none is needless: decided", learnt(2, api.Clause{-10, -6, -4}, 3), learnt(2, api.Clause{-10, -6, -4}, 3)},
		{"none is needless: a cause is not in the set", learnt(2, api.Clause{-9, -8, -5}, 3), learnt(2, api.Clause{-9, -8, -5}, 3)},
		{"none is needless: of two causes one is in the set", learnt(2, api.Clause{-9, -7, -6}, 3), learnt(2, api.Clause{-9, -7, -6}, 3)},
		{"needless by one decided", learnt(1, api.Clause{-9, -5, -4}, 3), learnt(1, api.Clause{-9, -4}, 3, 3)},
		{"needless, and by one of level 0", learnt(2, api.Clause{-9, -8, -7}, 3), learnt(2, api.Clause{-9, -7}, 3, 5, 2, 1, 0)},
		{"needless one behind the other", learnt(2, api.Clause{-9, -8, -7, -6, -5, -4}), learnt(2, api.Clause{-9, -6, -4}, 5, 2, 1, 0, 4, 1, 0, 3)},
		{"one is needless by what is needless itself", learnt(2, api.Clause{-10, -7, -5, -6, -4}, 6), learnt(2, api.Clause{-10, -6, -4}, 6, 4, 1, 0, 3)},
		{"Back falls", learnt(2, api.Clause{-9, -5, -4}), learnt(1, api.Clause{-9, -4}, 3)},
		{"the others in any order", learnt(2, api.Clause{-9, -4, -7, -8, -6}, 7, 7), learnt(2, api.Clause{-9, -7, -6, -4}, 7, 7, 5, 2, 1, 0)},
		{"none is needless, in any order", learnt(2, api.Clause{-9, -4, -6}), learnt(2, api.Clause{-9, -6, -4})},
		{"Back counts for nothing", learnt(-77, api.Clause{-10, -4, -8}, -5), learnt(2, api.Clause{-10, -8, -4}, -5)},
		{"a chain of no places", learnt(math.MinInt, api.Clause{-8, -4}, math.MaxInt, -1), learnt(1, api.Clause{-8, -4}, math.MaxInt, -1)},
		{"the first one of a lower level", learnt(1, api.Clause{-8, -5, -4}), learnt(1, api.Clause{-8, -4}, 3)},
		{"the first one forces the like of none", learnt(1, api.Clause{-7, -5, -4}), learnt(1, api.Clause{-7, -4}, 3)},
	} {
		t.Run(l.what, func(t *testing.T) {
			wantLess(t, steps(), l.given, l.want)
			got, e := steps().less(l.given)
			wantErr(t, "the model", e, api.OK)
			wantLearnt(t, "the model", got, l.want)
		})
	}
}

// A needless literal may be so by literals of level 0 alone, and then leaves nothing.
func TestL3NeedlessByLevelNought(t *testing.T) {
	w := world{
		[]api.Clause{{1}, {2}, {4, -1}, {5, -2, -1}, {6}},
		[]api.Mark{at(1, 0, 0), at(2, 0, 1), at(3, 1, -1), at(4, 1, 2), at(5, 1, 3), at(6, 1, 4), at(7, 2, -1)},
	}
	wantLess(t, w, learnt(1, api.Clause{-7, -5, -4, -6}, 9), learnt(0, api.Clause{-7}, 9, 4, 3, 1, 0, 2, 0))
	wantLess(t, w, learnt(1, api.Clause{-7, -5, -3, -6}, 9), learnt(1, api.Clause{-7, -3}, 9, 4, 3, 1, 0))
}

// A literal that stands twice in a reason, the one that it forces too, counts once.
func TestL3ReasonsWithLiteralsTwice(t *testing.T) {
	w := world{
		[]api.Clause{{1, 1}, {3, -2, 3, -1, -2, -1}},
		[]api.Mark{at(1, 0, 0), at(2, 1, -1), at(3, 1, 1), at(4, 2, -1)},
	}
	wantLess(t, w, learnt(1, api.Clause{-4, -3, -2}, 5), learnt(1, api.Clause{-4, -2}, 5, 1, 0))
}

func TestL3Drawn(t *testing.T) {
	r := rand.New(rand.NewSource(3))
	taken, shorter, more := 0, 0, 0
	for range 30000 {
		w := someWorld(r)
		l := w.someLesson(r)
		if len(w.marks) > 0 && r.Intn(8) == 0 {
			l.Clause = append(l.Clause, w.marks[r.Intn(len(w.marks))].Lit*(2*r.Intn(2)-1))
		}
		want, f := w.less(l)
		got, e := analyse.Less(w.clauses, w.marks, l)
		if e != f || !isSame(got, want) {
			t.Fatalf("Less of %v, the clauses %v, the marks %v: %v, %d, not %v, %d", l, w.clauses, w.marks, got, e, want, f)
		}
		if e == api.OK {
			taken++
			if len(got.Clause) < len(l.Clause) {
				shorter++
			}
			if len(got.Chain) > len(l.Chain)+len(l.Clause)-len(got.Clause) {
				more++
			}
		}
	}
	if taken < 5000 || shorter < 3000 || more < 1000 {
		t.Fatal("few that are taken, shorter, or cleaned:", taken, shorter, more)
	}
}

// Very many needless literals, each by the one ahead of it, and each by a literal of its own of level 0.
func TestL3LongRoads(t *testing.T) {
	const n = 1 << 17
	w := world{}
	for i := 1; i <= n; i++ {
		w.marks = append(w.marks, at(i, 0, len(w.clauses)))
		w.clauses = append(w.clauses, api.Clause{i})
	}
	w.marks = append(w.marks, at(n+1, 1, -1))
	given := learnt(1, api.Clause{-2*n - 1, -n - 1}, 3)
	for i := n + 2; i <= 2*n; i++ {
		w.marks = append(w.marks, at(i, 1, len(w.clauses)))
		w.clauses = append(w.clauses, api.Clause{1 - i, n - i, i})
		given.Clause = append(given.Clause, -i)
	}
	w.marks = append(w.marks, at(2*n+1, 2, -1))
	want := learnt(1, api.Clause{-2*n - 1, -n - 1}, 3)
	for i := 2 * n; i > n+1; i-- {
		want.Chain = append(want.Chain, w.marks[i-1].Reason, w.marks[i-n-1].Reason)
	}
	wantLess(t, w, given, want)
	slices.Reverse(given.Clause[1:])
	wantLess(t, w, given, want)
}
