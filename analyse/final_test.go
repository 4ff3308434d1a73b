package analyse_test

import (
	"fmt"
	"math"
	"math/rand"
	"slices"
	"testing"

	"fulcrum/analyse"
	"fulcrum/api"
)

func TestL6NotTrue(t *testing.T) {
	w := example()
	for _, lit := range []int{-3, -6, -7, -1, -2, -4, -5, 8, -8, 0, math.MinInt, math.MaxInt, -math.MaxInt} {
		got, e := analyse.Final(w.clauses, w.marks, lit)
		wantErr(t, fmt.Sprint("Final of ", lit), e, api.ErrLearn)
		wantInts(t, "beside an error", got)
		_, e = analyse.Final(nil, nil, lit)
		wantErr(t, fmt.Sprint("Final without marks of ", lit), e, api.ErrLearn)
	}
}

func TestL6Final(t *testing.T) {
	w := steps()
	w.marks = append(w.marks, at(-11, 4, -1), at(12, 4, 7), at(-13, 4, 8), at(14, 4, 9))
	w.clauses = append(w.clauses, api.Clause{12, 11, -10}, api.Clause{-13, -4, 11, -13}, api.Clause{14, 13, -12, -4, 13})
	for _, l := range []struct {
		what string
		lit  int
		want []int
	}{
		{"of level 0, by a clause alone", 1, nil},
		{"of level 0, by others", 3, nil},
		{"decided", 4, []int{4}},
		{"decided on others", 9, []int{9}},
		{"decided, below 0", -11, []int{-11}},
		{"by one decided", 5, []int{4}},
		{"by two, and one of level 0", 7, []int{4, 6}},
		{"a road further", 8, []int{4, 6}},
		{"by all", 10, []int{4, 6, 9}},
		{"by all and one below 0", 12, []int{4, 6, 9, -11}},
		{"below 0, by some of all", -13, []int{4, -11}},
		{"by several roads, once each", 14, []int{4, 6, 9, -11}},
	} {
		got, e := analyse.Final(w.clauses, w.marks, l.lit)
		wantErr(t, l.what, e, api.OK)
		wantInts(t, l.what, got, l.want...)
		model, _ := w.final(l.lit)
		wantInts(t, l.what+": the model", model, l.want...)
	}
}

// By rising places: not by their numbers, nor as the reason has them.
func TestL6RisingPlaces(t *testing.T) {
	w := world{[]api.Clause{{-2, 4, -7, 9, -1}}, []api.Mark{at(7, 1, -1), at(-9, 2, -1), at(2, 3, -1), at(1, 4, -1), at(4, 4, 0)}}
	got, e := analyse.Final(w.clauses, w.marks, 4)
	wantErr(t, "Final", e, api.OK)
	wantInts(t, "Final", got, 7, -9, 2, 1)
}

func TestL6Drawn(t *testing.T) {
	r := rand.New(rand.NewSource(6))
	many := 0
	for range 10000 {
		w := someWorld(r)
		lits := []int{0, math.MinInt, 1, -1}
		for _, m := range w.marks {
			lits = append(lits, m.Lit, -m.Lit)
		}
		for _, lit := range lits {
			want, f := w.final(lit)
			got, e := analyse.Final(w.clauses, w.marks, lit)
			if e != f || !slices.Equal(got, want) {
				t.Fatalf("Final of %d, the clauses %v, the marks %v: %v, %d, not %v, %d", lit, w.clauses, w.marks, got, e, want, f)
			}
			if len(got) > 1 {
				many++
			}
		}
	}
	if many < 2000 {
		t.Fatal("few that lean on more than one:", many)
	}
}

// What a literal leans on is enough: with the decided ones alone the clauses force it; and it is what counts, mark by mark.
func TestL6IsEnough(t *testing.T) {
	r := rand.New(rand.NewSource(66))
	for range 3000 {
		w := someWorld(r)
		for _, m := range w.marks {
			got, e := analyse.Final(w.clauses, w.marks, m.Lit)
			wantErr(t, "Final", e, api.OK)
			truths := map[int]bool{}
			for _, lit := range got {
				truths[lit] = true
			}
			for _, other := range w.marks {
				if other.Reason >= 0 && !slices.ContainsFunc(w.clauses[other.Reason], func(lit int) bool { return lit != other.Lit && !truths[-lit] }) {
					truths[other.Lit] = true
				}
			}
			if !truths[m.Lit] {
				t.Fatalf("%d does not follow of %v; the clauses %v, the marks %v", m.Lit, got, w.clauses, w.marks)
			}
		}
	}
}

func TestL6LongRoads(t *testing.T) {
	const n = 1 << 17
	w := road(n)
	got, e := analyse.Final(w.clauses, w.marks, 2*n)
	wantErr(t, "Final", e, api.OK)
	wantInts(t, "Final", got, n+1)
	got, e = analyse.Final(w.clauses, w.marks, n)
	wantErr(t, "Final", e, api.OK)
	wantInts(t, "Final", got)

	w = world{}
	var want []int
	for i := 1; i < n; i++ { // each odd one decided, each even one by the two ahead of it
		if i%2 == 1 {
			w.marks = append(w.marks, at(i, i/2+1, -1))
			want = append(want, i)
			continue
		}
		w.marks = append(w.marks, at(i, i/2, len(w.clauses)))
		w.clauses = append(w.clauses, api.Clause{1 - i, i, -max(i-2, 1)})
	}
	got, e = analyse.Final(w.clauses, w.marks, n-2)
	wantErr(t, "Final", e, api.OK)
	wantInts(t, "Final", got, want[:len(want)-1]...)
}
