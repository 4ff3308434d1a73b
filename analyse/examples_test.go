package analyse_test

import (
	"testing"

	"fulcrum/analyse"
	"fulcrum/api"
)

func TestExample1(t *testing.T) {
	w := example()
	wantErr(t, "Check", analyse.Check(w.clauses, w.marks), api.OK)
	wantFirst(t, w, 3, learnt(0, api.Clause{-1}, 3, 2, 1, 0, 4))
}

func TestExample2(t *testing.T) {
	w := example()
	wantReplay(t, w.clauses, []int{3, 2, 1, 0, 4}, -1)
	n, e := analyse.Glue(w.marks, api.Clause{-1, -7})
	wantErr(t, "Glue", e, api.OK)
	wantInt(t, "Glue", n, 2)
	for _, l := range [][2]int{{5, 1}, {7, 6}} {
		leans, e := analyse.Final(w.clauses, w.marks, l[0])
		wantErr(t, "Final", e, api.OK)
		wantInts(t, "Final", leans, l[1])
	}
}

func TestExample3(t *testing.T) {
	w := example()
	l, e := analyse.First(w.clauses, w.marks, 5)
	wantErr(t, "First of a clause with a true literal", e, api.ErrLearn)
	wantLearnt(t, "beside an error", l, api.Learnt{})
}
