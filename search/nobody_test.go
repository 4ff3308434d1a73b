package search_test

import (
	"math"
	"testing"

	"fulcrum/api"
	"fulcrum/search"
)

// Of a solver that New did not give Atoms is 0, Steps has nothing, all else answers ErrArg, whatever it is given.
func TestNobodysSolver(t *testing.T) {
	for name, s := range map[string]*search.Solver{"nil": nil, "plain": {}, "new": new(search.Solver)} {
		for range 2 {
			wantInt(t, name+": Atoms", s.Atoms(), 0)
			wantInt(t, name+": Steps", len(s.Steps()), 0)
			n, e := s.Grow()
			wantErr(t, name+": Grow", e, api.ErrArg)
			wantInt(t, name+": Grow", n, 0)
			for _, c := range []api.Clause{nil, {}, {0}, {1}, {1, -1}, {math.MinInt}} {
				wantErr(t, name+": Add", s.Add(c), api.ErrArg)
				f, e := s.Solve(c)
				wantErr(t, name+": Solve", e, api.ErrArg)
				wantNothing(t, f)
			}
		}
	}
}

// wantNothing: beside an error there is nothing else.
func wantNothing(t *testing.T, f api.Found) {
	t.Helper()
	if f.Kind != api.SearchNone || len(f.Model) != 0 || len(f.Core) != 0 {
		t.Fatalf("beside an error: %+v", f)
	}
}
