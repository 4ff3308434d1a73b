package units_test

import (
	"fmt"
	"math"
	"testing"

	"fulcrum/api"
	"fulcrum/units"
)

// A Store that New and Load did not give: all calls, at arguments that others take and at ones that nobody does.
func TestStoresThatNobodyMade(t *testing.T) {
	var plain units.Store
	for _, s := range []*units.Store{nil, {}, &plain, new(units.Store)} {
		for range 2 { // what is called changes nothing
			for _, n := range []int{0, 1, -1, 2, 1000, math.MaxInt, math.MinInt} {
				v, e := s.Value(n)
				wantErr(t, fmt.Sprint("Value of ", n), e, api.ErrArg)
				wantInt(t, "Value beside an error", v, 0)
				wantErr(t, fmt.Sprint("Decide of ", n), s.Decide(n), api.ErrArg)
				wantErr(t, fmt.Sprint("Back to ", n), s.Back(n), api.ErrArg)
				for _, clause := range []int{0, -1, 5} {
					wantErr(t, fmt.Sprint("Force of ", n), s.Force(n, clause), api.ErrArg)
				}
				for _, c := range []api.Clause{nil, {}, {n}, {1, -n}} {
					at, e := s.Add(c)
					wantErr(t, fmt.Sprint("Add of ", c), e, api.ErrArg)
					wantInt(t, "Add beside an error", at, 0)
				}
			}
			atom, e := s.Grow()
			wantErr(t, "Grow", e, api.ErrArg)
			wantInt(t, "Grow beside an error", atom, 0)
			wantInt(t, "Atoms", s.Atoms(), 0)
			wantInt(t, "Level", s.Level(), 0)
			wantInt(t, "Propagate", s.Propagate(), -1)
			wantClauses(t, "nobody's", s.Clauses())
			wantMarks(t, "nobody's", s.Marks())
		}
	}
}
