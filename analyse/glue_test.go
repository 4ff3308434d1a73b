package analyse_test

import (
	"fmt"
	"math"
	"math/rand"
	"testing"

	"fulcrum/analyse"
	"fulcrum/api"
)

func TestL4Glue(t *testing.T) {
	marks := []api.Mark{at(3, 0, 4), at(6, 1, -1), at(-7, 1, 5), at(1, 2, -1), at(math.MaxInt, 9, -9)}
	for _, l := range []struct {
		c    api.Clause
		want int
	}{
		{nil, 0},
		{api.Clause{}, 0},
		{api.Clause{-3}, 1},
		{api.Clause{3}, 1},
		{api.Clause{-6, 7}, 1},
		{api.Clause{6, -7}, 1},
		{api.Clause{6, 7, -6, -7, 6}, 1},
		{api.Clause{-1, -6}, 2},
		{api.Clause{1, -6}, 2},
		{api.Clause{1, 3, 6}, 3},
		{api.Clause{1, -1, -7, 3, 3, 7}, 3},
		{api.Clause{-math.MaxInt, 1}, 2},
		{api.Clause{math.MaxInt, 1, 7, 3}, 4},
	} {
		n, e := analyse.Glue(marks, l.c)
		wantErr(t, fmt.Sprint("Glue of ", l.c), e, api.OK)
		wantInt(t, fmt.Sprint("Glue of ", l.c), n, l.want)
	}
}

func TestL4NoMark(t *testing.T) {
	marks := []api.Mark{at(3, 0, 4), at(6, 1, -1), at(0, 2, -1), at(math.MinInt, 3, -1)}
	for _, c := range []api.Clause{{9}, {-9}, {3, 6, 9}, {9, 3}, {-3, -6, -9}, {0}, {3, 0}, {0, 3}, {math.MinInt}, {3, math.MinInt}, {math.MaxInt}, {-math.MaxInt}, {6, 3, 1}} {
		n, e := analyse.Glue(marks, c)
		wantErr(t, fmt.Sprint("Glue of ", c), e, api.ErrLearn)
		wantInt(t, "beside an error", n, 0)
		_, e = analyse.Glue(nil, c)
		wantErr(t, fmt.Sprint("Glue without marks of ", c), e, api.ErrLearn)
	}
	n, e := analyse.Glue(nil, nil)
	wantErr(t, "nothing at all", e, api.OK)
	wantInt(t, "nothing at all", n, 0)
}

// The marks need not be such as may be: the first one of an atom counts, be it of the opposite, and levels are any ints.
func TestL4TheFirstMarkCounts(t *testing.T) {
	marks := []api.Mark{at(1, 5, 7), at(-2, 5, -3), at(-1, 6, 0), at(2, math.MinInt, 0), at(1, 7, 0), at(3, 6, 0), at(4, math.MaxInt, 0), at(5, -1, 0), at(6, math.MinInt, 0)}
	for _, l := range []struct {
		c    api.Clause
		want int
	}{{api.Clause{1, 2}, 1}, {api.Clause{-1, 2}, 1}, {api.Clause{1, 3}, 2}, {api.Clause{1, -2, 3}, 2}, {api.Clause{2, 6}, 2}, {api.Clause{4, 5, 6}, 3}, {api.Clause{1, 2, 3, 4, 5, 6}, 5}} {
		n, e := analyse.Glue(marks, l.c)
		wantErr(t, fmt.Sprint("Glue of ", l.c), e, api.OK)
		wantInt(t, fmt.Sprint("Glue of ", l.c), n, l.want)
	}
}

func TestL4Drawn(t *testing.T) {
	r := rand.New(rand.NewSource(4))
	some := 0
	for range 20000 {
		var marks []api.Mark
		for range r.Intn(12) {
			marks = append(marks, at(r.Intn(15)-7, r.Intn(6)-1, r.Intn(3)))
		}
		var c api.Clause
		for range r.Intn(5) {
			c = append(c, r.Intn(15)-7)
		}
		want, f := glue(marks, c)
		got, e := analyse.Glue(marks, c)
		if got != want || e != f {
			t.Fatalf("Glue of %v under %v: %d, %d, not %d, %d", c, marks, got, e, want, f)
		}
		if got > 1 {
			some++
		}
	}
	if some < 1000 {
		t.Fatal("few of more than one level:", some)
	}
}

func TestL4Many(t *testing.T) {
	const n = 1 << 18
	var marks []api.Mark
	var c api.Clause
	for i := 1; i <= n; i++ {
		marks = append(marks, at(i, i/2, -1), at(-i, -i, -1))
		c = append(c, -i)
	}
	got, e := analyse.Glue(marks, c)
	wantErr(t, "Glue", e, api.OK)
	wantInt(t, "Glue", got, n/2+1)
	_, e = analyse.Glue(marks, append(c, n+1))
	wantErr(t, "Glue", e, api.ErrLearn)
}
