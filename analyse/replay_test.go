package analyse_test

import (
	"math"
	"math/rand"
	"slices"
	"testing"

	"fulcrum/analyse"
	"fulcrum/api"
)

func wantNoReplay(t *testing.T, what string, l []api.Clause, chain ...int) {
	t.Helper()
	got, e := analyse.Replay(l, chain)
	wantErr(t, what, e, api.ErrLearn)
	wantInts(t, what+", beside an error", got)
}

func TestL5NoPlaces(t *testing.T) {
	l := []api.Clause{{1}, {-1, 2}, {-2}}
	wantNoReplay(t, "the empty chain", l)
	wantNoReplay(t, "the empty chain without clauses", nil)
	for _, n := range noPlaces(len(l)) {
		wantNoReplay(t, "no place alone", l, n)
		wantNoReplay(t, "no place first", l, n, 0, 1)
		wantNoReplay(t, "no place between", l, 0, n, 1)
		wantNoReplay(t, "no place last", l, 0, 1, 2, n)
	}
	wantNoReplay(t, "a place without clauses", nil, 0)
}

func TestL5OneClause(t *testing.T) {
	for _, l := range []struct{ given, want api.Clause }{
		{nil, nil},
		{api.Clause{}, nil},
		{api.Clause{-4, -5}, api.Clause{-4, -5}},
		{api.Clause{3, -1, 2}, api.Clause{-1, 2, 3}},
		{api.Clause{2, 2, 2}, api.Clause{2}},
		{api.Clause{-2, 2}, api.Clause{2, -2}},
		{api.Clause{2, -2}, api.Clause{2, -2}},
		{api.Clause{-7, 3, -3, 7, -7, 10, -1}, api.Clause{-1, 3, -3, 7, -7, 10}},
		{api.Clause{math.MaxInt, -1, -math.MaxInt}, api.Clause{-1, math.MaxInt, -math.MaxInt}},
	} {
		wantReplay(t, []api.Clause{{0}, l.given}, []int{1}, l.want...)
	}
}

func TestL5Chains(t *testing.T) {
	l := []api.Clause{{1, 2}, {-1, 3, 2}, {-2, -2, 4}, {-3, -4}, {3}, {4, -5}, {-4}, {-1, 1}, {5, 1, -1}, {-1, -1, -1}, {-2}, {1}}
	for _, c := range []struct {
		what        string
		chain, want []int
	}{
		{"one step", []int{0, 1}, []int{2, 3}},
		{"a literal that both have stands there once", []int{1, 0}, []int{2, 3}},
		{"its opposite twice in the clause", []int{0, 2}, []int{1, 4}},
		{"three steps", []int{0, 1, 2, 5}, nil},
		{"to the empty clause", []int{10, 0, 9}, []int{}},
		{"a clause once more", []int{0, 1, 2, 3, 4}, nil},
		{"resolved by a clause that brings the literal in anew", []int{0, 7}, []int{1, 2}},
		{"resolved by it again and again", []int{11, 7, 7, 7}, []int{1}},
		{"both of an atom in the set, one in the clause", []int{7, 0}, []int{1, 2}},
		{"both of an atom in the set, the opposite in the clause", []int{7, 9}, []int{-1}},
		{"both of an atom come in", []int{5, 8}, []int{1, -1, 4}},
		{"units", []int{4, 3, 6}, nil},
	} {
		got, e := analyse.Replay(l, c.chain)
		want, f := replay(l, c.chain)
		if c.want == nil {
			wantErr(t, c.what+": the model", f, api.ErrLearn)
			wantErr(t, c.what, e, api.ErrLearn)
			continue
		}
		wantErr(t, c.what, e, api.OK)
		wantInts(t, c.what+": the model", want, c.want...)
		wantInts(t, c.what, got, c.want...)
	}
}

func TestL5NotJustOne(t *testing.T) {
	l := []api.Clause{{1, 2}, {-1, -2}, {3}, {-1, -2, -1, 3}, {}, {1, -1}, {-2, 1}, {1, 2, 3}, {2, 1}}
	wantNoReplay(t, "none has its opposite", l, 0, 2)
	wantNoReplay(t, "none, the same clause", l, 0, 0)
	wantNoReplay(t, "none, the empty clause", l, 0, 4)
	wantNoReplay(t, "none, out of the empty clause", l, 4, 0)
	wantNoReplay(t, "two have", l, 0, 1)
	wantNoReplay(t, "two have, the one more than once", l, 0, 3)
	wantNoReplay(t, "two have, of one atom", l, 5, 5)
	wantNoReplay(t, "none, a step further", l, 0, 6, 7, 2)
	wantNoReplay(t, "two, a step further", l, 0, 6, 7, 1)
	wantNoReplay(t, "the literal that went", l, 8, 6, 6)
}

// What is no literal counts in each clause of the chain, the first one and the last one, and in no other one.
func TestL5NoLiterals(t *testing.T) {
	for _, lit := range []int{0, math.MinInt} {
		l := []api.Clause{{1, 2}, {-1, lit}, {lit}, {lit, 1}, {-1, 3}}
		wantNoReplay(t, "the clause alone", l, 2)
		wantNoReplay(t, "the first clause", l, 3, 4)
		wantNoReplay(t, "another clause", l, 0, 1)
		wantNoReplay(t, "the last clause", l, 0, 4, 3)
		wantReplay(t, l, []int{0, 4}, 2, 3)
	}
}

func TestL5Drawn(t *testing.T) {
	r := rand.New(rand.NewSource(5))
	long := 0
	for range 20000 {
		var l []api.Clause
		for range 1 + r.Intn(8) {
			var c api.Clause
			for range r.Intn(5) {
				lit := (1 + r.Intn(6)) * (2*r.Intn(2) - 1)
				if r.Intn(100) == 0 {
					lit = []int{0, math.MinInt}[r.Intn(2)]
				}
				c = append(c, lit)
			}
			l = append(l, c)
		}
		chain := []int{r.Intn(len(l))}
		for len(chain) < 6 { // places that go on, as far as some are found
			next := -1
			for range 8 {
				n := r.Intn(len(l)+2) - 1
				if _, e := replay(l, append(slices.Clone(chain), n)); next < 0 || e == api.OK {
					next = n
				}
			}
			chain = append(chain, next)
			want, f := replay(l, chain)
			got, e := analyse.Replay(l, chain)
			if e != f || !slices.Equal(got, want) {
				t.Fatalf("Replay of %v, the clauses %v: %v, %d, not %v, %d", chain, l, got, e, want, f)
			}
			if e == api.OK && len(chain) > 3 {
				long++
			}
		}
	}
	if long < 2000 {
		t.Fatal("few long ones:", long)
	}
}

func TestL5LongChains(t *testing.T) {
	const n = 1 << 18
	l := []api.Clause{{}}
	for i := 1; i <= n; i++ {
		l[0] = append(l[0], i)
		l = append(l, api.Clause{-i, -n - i})
	}
	var chain, want []int
	for i := range l {
		chain = append(chain, i)
		want = append(want, -n-i)
	}
	wantReplay(t, l, chain, want[1:]...)
	wantNoReplay(t, "the last one twice", l, append(chain, n)...)
}
