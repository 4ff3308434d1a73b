package tableau_test

import (
	"testing"

	"fulcrum/api"
	"fulcrum/delta"
	"fulcrum/ratio"
	"fulcrum/tableau"
)

// The five examples of the chapter, as they stand there.

func defined(t *testing.T, x api.Tableau, f api.Form, want int) api.Tableau {
	t.Helper()
	y, v, e := tableau.Define(x, f)
	wantErr(t, "Define", e, api.OK)
	if v != want {
		t.Fatalf("Define: variable %d, not %d", v, want)
	}
	return y
}

func first(t *testing.T) api.Tableau {
	t.Helper()
	x, e := tableau.New(2)
	wantErr(t, "New", e, api.OK)
	return defined(t, defined(t, x, form("1", 0, "1", 1), 2), form("1", 0, "-1", 1), 3)
}

func TestExample1(t *testing.T) {
	x := first(t)
	wantSame(t, "Define", x, begun())
	basics, e := tableau.Basics(x)
	wantErr(t, "Basics", e, api.OK)
	wantInts(t, "Basics", basics, 2, 3)
	others, e := tableau.Others(x)
	wantErr(t, "Others", e, api.OK)
	wantInts(t, "Others", others, 0, 1)
	column, e := tableau.Column(x, 0)
	wantErr(t, "Column", e, api.OK)
	wantInts(t, "Column", column, 2, 3)
}

func TestExample2(t *testing.T) {
	x := first(t)
	y := pivoted(t, x, 2, 0)
	wantSame(t, "Pivot", y, rows(4, row(0, "-1", 1, "1", 2), row(3, "-2", 1, "1", 2)))
	wantSame(t, "Pivot", pivoted(t, y, 0, 2), x)
	_, e := tableau.Pivot(x, 2, 3)
	wantErr(t, "Pivot", e, api.ErrBasic)
	_, e = tableau.Pivot(x, 0, 1)
	wantErr(t, "Pivot", e, api.ErrBasic)
}

func TestExample3(t *testing.T) {
	x := defined(t, first(t), form("1", 2, "1", 3), 4)
	wantSame(t, "Define", x, rows(5, row(2, "1", 0, "1", 1), row(3, "1", 0, "-1", 1), row(4, "2", 0)))
	_, e := tableau.Pivot(x, 4, 1)
	wantErr(t, "Pivot", e, api.ErrPivot)
}

func TestExample4(t *testing.T) {
	n := func(i int64) api.Delta { return delta.Of(ratio.Whole(i)) }
	vals, e := tableau.Extend(first(t), []api.Delta{n(3), n(1), n(0), n(0)})
	wantErr(t, "Extend", e, api.OK)
	wantDeltas(t, "Extend", vals, bothIn([]api.Delta{n(3), n(1), n(4), n(2)}))
	_, e = tableau.Extend(first(t), []api.Delta{n(3), n(1), n(0)})
	wantErr(t, "Extend", e, api.ErrArg)
}

func TestExample5(t *testing.T) {
	wantErr(t, "Check", tableau.Check(rows(2, row(1, "1", 0), row(0, "1", 1))), api.ErrTableau)
}
