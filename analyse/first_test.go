package analyse_test

import (
	"math"
	"math/rand"
	"slices"
	"testing"

	"fulcrum/analyse"
	"fulcrum/api"
)

func wantNothing(t *testing.T, what string, w world, conflict int) {
	t.Helper()
	got, e := analyse.First(w.clauses, w.marks, conflict)
	wantErr(t, what, e, api.ErrLearn)
	wantLearnt(t, what+", beside an error", got, api.Learnt{})
}

func TestL2NoConflict(t *testing.T) {
	w := example()
	for _, n := range noPlaces(len(w.clauses)) {
		wantNothing(t, "no place of a clause", w, n)
	}
	for what, c := range map[string]api.Clause{
		"a true literal":                    {-5, 4},
		"a true literal alone":              {5},
		"an open literal":                   {-5, 8},
		"an open one behind false ones":     {-5, -4, -1, -9},
		"the empty clause":                  {},
		"a literal of level 0 alone":        {-3},
		"a literal of level 0 twice":        {-3, -3},
		"0":                                 {-5, 0},
		"the least int":                     {math.MinInt, -5},
		"the greatest int":                  {-5, math.MaxInt},
		"the least literal":                 {-math.MaxInt},
		"a false literal and its opposite":  {-5, 5},
		"an open literal and its opposite":  {8, -8},
		"0 alone":                           {0},
		"the least int alone":               {math.MinInt},
		"a literal of level 0 and its like": {3, -3},
	} {
		wantNothing(t, what, world{append(w.clauses, c), w.marks}, len(w.clauses))
	}
	wantNothing(t, "no clauses", world{}, 0)
	wantNothing(t, "no marks", world{clauses: []api.Clause{{1}}}, 0)
}

// Of level 0 alone: nothing to learn from, however many literals there are.
func TestL2LevelNought(t *testing.T) {
	w := world{
		[]api.Clause{{1}, {2, -1}, {-1, -2}, {-2}},
		[]api.Mark{at(1, 0, 0), at(2, 0, 1), at(3, 1, -1)},
	}
	wantNothing(t, "two of level 0", w, 2)
	wantNothing(t, "one of level 0", w, 3)
}

func TestL2First(t *testing.T) {
	// 1 and 2 at level 0, 3 and 4 (by 3 and 2) at level 1, 5, 6 (by 5 and 4), 7 (by 6 and 1) and 8 (by 7 and 6) at level 2
	marks := []api.Mark{at(1, 0, 0), at(2, 0, 1), at(3, 1, -1), at(4, 1, 2), at(5, 2, -1), at(6, 2, 3), at(7, 2, 4), at(8, 2, 5)}
	reasons := []api.Clause{{1}, {-1, 2}, {-3, 4, -2}, {6, -5, -4}, {-6, -1, 7}, {-7, -6, 8}}
	for _, l := range []struct {
		what string
		c    api.Clause
		want api.Learnt
	}{
		{"one literal of the greatest level from the first", api.Clause{-3, -8}, learnt(1, api.Clause{-8, -3}, 6)},
		{"one literal alone", api.Clause{-8}, learnt(0, api.Clause{-8}, 6)},
		{"one literal twice", api.Clause{-8, -8}, learnt(0, api.Clause{-8}, 6)},
		{"a decided literal alone", api.Clause{-5}, learnt(0, api.Clause{-5}, 6)},
		{"a literal of a lower level alone", api.Clause{-4}, learnt(0, api.Clause{-4}, 6)},
		{"two of a lower level", api.Clause{-4, -3}, learnt(0, api.Clause{-3}, 6, 2, 1, 0)},
		{"two of the greatest level", api.Clause{-7, -8}, learnt(0, api.Clause{-6}, 6, 5, 4, 0)},
		{"two, and one of them twice", api.Clause{-8, -7, -8, -7}, learnt(0, api.Clause{-6}, 6, 5, 4, 0)},
		{"down to the decided one", api.Clause{-8, -5}, learnt(1, api.Clause{-5, -4}, 6, 5, 4, 3, 0)},
		{"with a literal of level 0 to be cleaned", api.Clause{-2, -8}, learnt(0, api.Clause{-8}, 6, 1, 0)},
		{"with two of level 0", api.Clause{-1, -8, -2}, learnt(0, api.Clause{-8}, 6, 1, 0)},
		{"the others by falling places", api.Clause{-3, -4, -8}, learnt(1, api.Clause{-8, -4, -3}, 6)},
		{"others of level 1 are not resolved", api.Clause{-3, -6, -4, -1}, learnt(1, api.Clause{-6, -4, -3}, 6, 0)},
		{"the reason brings in one of level 1", api.Clause{-5, -6}, learnt(1, api.Clause{-5, -4}, 6, 3)},
	} {
		t.Run(l.what, func(t *testing.T) {
			w := world{append(slices.Clone(reasons), l.c), marks}
			wantFirst(t, w, len(reasons), l.want)
			got, _ := w.first(len(reasons))
			wantLearnt(t, "the model", got, l.want)
		})
	}
}

// The clause that is broken may stand anywhere, and be a reason's twin.
func TestL2PlacesOfClauses(t *testing.T) {
	w := world{
		[]api.Clause{{-1, -2}, {9}, {-1, 2}, {-1, 2}},
		[]api.Mark{at(1, 1, -1), at(2, 1, 3)},
	}
	wantFirst(t, w, 0, learnt(0, api.Clause{-1}, 0, 3))
	w.marks[1].Reason = 2
	wantFirst(t, w, 0, learnt(0, api.Clause{-1}, 0, 2))
}

// Reasons that have a literal twice, the one that they force too, are as if they had it once.
func TestL2ReasonsWithLiteralsTwice(t *testing.T) {
	w := world{
		[]api.Clause{{3, 3}, {2, -1, 2, -1, -3, -3}, {-2, -1, -2}},
		[]api.Mark{at(3, 0, 0), at(1, 1, -1), at(2, 1, 1)},
	}
	wantFirst(t, w, 2, learnt(0, api.Clause{-1}, 2, 1, 0))
}

// What comes in of level 0 by several roads is resolved once each, by falling places.
func TestL2CleanedByFallingPlaces(t *testing.T) {
	w := world{
		[]api.Clause{{1}, {-1, 2}, {-1, -2, 3}, {4}, {-5, -3, -4}, {-5, -4, 6, -2}, {-6, -5, -1}},
		[]api.Mark{at(1, 0, 0), at(2, 0, 1), at(4, 0, 3), at(3, 0, 2), at(5, 1, -1), at(6, 1, 5)},
	}
	wantFirst(t, w, 4, learnt(0, api.Clause{-5}, 4, 2, 3, 1, 0))
	wantFirst(t, w, 6, learnt(0, api.Clause{-5}, 6, 5, 3, 1, 0))
}

// Back is the greatest level of the others, not the one below the first's.
func TestL2Back(t *testing.T) {
	w := world{marks: []api.Mark{at(1, 1, -1), at(2, 2, -1), at(3, 3, -1), at(4, 4, -1), at(5, 5, -1)}}
	for _, l := range []struct {
		c    api.Clause
		back int
	}{{api.Clause{-5}, 0}, {api.Clause{-5, -4}, 4}, {api.Clause{-1, -5}, 1}, {api.Clause{-2, -4, -1}, 2}, {api.Clause{-1, -2, -3, -4, -5}, 4}} {
		w.clauses = []api.Clause{l.c}
		got, e := analyse.First(w.clauses, w.marks, 0)
		wantErr(t, "First", e, api.OK)
		wantInt(t, "Back", got.Back, l.back)
		wantInts(t, "Chain", got.Chain, 0)
		slices.Sort(l.c) // falling places here
		wantInts(t, "Clause", got.Clause, l.c...)
	}
}

func TestL2Drawn(t *testing.T) {
	r := rand.New(rand.NewSource(2))
	learnt, long := 0, 0
	for range 10000 {
		w := someWorld(r)
		for n := -1; n <= len(w.clauses); n++ {
			want, f := w.first(n)
			got, e := analyse.First(w.clauses, w.marks, n)
			if e != f || !isSame(got, want) {
				t.Fatalf("First of %d, the clauses %v, the marks %v: %v, %d, not %v, %d", n, w.clauses, w.marks, got, e, want, f)
			}
			if e == api.OK {
				learnt++
			}
			if len(got.Chain) > 3 {
				long++
			}
		}
	}
	if learnt < 5000 || long < 1000 {
		t.Fatal("few that teach anything:", learnt, long)
	}
}

// Long roads: each mark by the one ahead of it, at level 0 and at level 1.
func TestL2LongRoads(t *testing.T) {
	const n = 1 << 17
	w := road(n)
	w.clauses = append(w.clauses, api.Clause{-2 * n, -n - 1, -n})
	want := learnt(0, api.Clause{-n - 1}, len(w.clauses)-1)
	for i := len(w.marks) - 1; i >= 0; i-- {
		if w.marks[i].Reason >= 0 {
			want.Chain = append(want.Chain, w.marks[i].Reason)
		}
	}
	wantFirst(t, w, len(w.clauses)-1, want)
}

// road is 1 to n at level 0, each by the one ahead of it; n+1, decided, and n+2 to 2n, each by the one ahead of it, and by one of level 0.
func road(n int) world {
	w := world{[]api.Clause{{1}}, []api.Mark{at(1, 0, 0)}}
	for i := 2; i <= 2*n; i++ {
		switch {
		case i <= n:
			w.marks = append(w.marks, at(i, 0, len(w.clauses)))
			w.clauses = append(w.clauses, api.Clause{i, 1 - i})
		case i == n+1:
			w.marks = append(w.marks, at(i, 1, -1))
		default:
			w.marks = append(w.marks, at(i, 1, len(w.clauses)))
			w.clauses = append(w.clauses, api.Clause{1 - i, n - i, i})
		}
	}
	return w
}

// Wide ones: a clause of very many literals, each forced by all that are decided.
func TestL2WideConflicts(t *testing.T) {
	const n = 1 << 17
	var w world
	conflict := api.Clause{}
	for i := 1; i <= n; i++ {
		w.marks = append(w.marks, at(i, i, -1))
		conflict = append(conflict, -i)
	}
	for i := n + 1; i < 2*n; i++ {
		w.marks = append(w.marks, at(i, n, len(w.clauses)))
		w.clauses = append(w.clauses, api.Clause{i, -n, n - i})
		conflict = append(conflict, -i)
	}
	w.clauses = append(w.clauses, conflict)
	got, e := analyse.First(w.clauses, w.marks, n-1)
	wantErr(t, "First", e, api.OK)
	wantInt(t, "Back", got.Back, n-1)
	wantInt(t, "the chain", len(got.Chain), n)
	want := slices.Clone(conflict[:n])
	slices.Reverse(want)
	wantInts(t, "Clause", got.Clause, want...)
}
