package implied_test

import (
	"fmt"
	"math"
	"math/rand"
	"slices"
	"testing"

	"fulcrum/api"
	"fulcrum/implied"
)

// v1 is v0, which is from 2 + d to 5 - d: what v1 has itself, and which of both it is told.
func TestI2Tighter(t *testing.T) {
	lower, upper := atLeast(1, "2", "1", by(1, "1")), atMost(1, "5", "-1", by(2, "1"))
	for _, c := range []struct {
		what string
		has  api.Limit
		want []bound
	}{
		{"no bounds", api.Limit{}, []bound{lower, upper}},
		{"no bounds, other fields set", api.Limit{Lower: none("3", 8), Upper: none("4", 9)}, []bound{lower, upper}},
		{"both are looser", api.Limit{Lower: at("1", "0", 8), Upper: at("6", "0", 9)}, []bound{lower, upper}},
		{"both are the same", api.Limit{Lower: at("2", "1", 8), Upper: at("5", "-1", 9)}, nil},
		{"both are tighter", api.Limit{Lower: at("3", "0", 8), Upper: at("4", "0", 9)}, nil},
		{"the lower one is looser by d", api.Limit{Lower: at("2", "1/2", 8), Upper: at("4", "0", 9)}, []bound{lower}},
		{"the lower one is tighter by d", api.Limit{Lower: at("2", "3/2", 8), Upper: at("4", "0", 9)}, nil},
		{"the upper one is looser by d", api.Limit{Lower: at("3", "0", 8), Upper: at("5", "-1/2", 9)}, []bound{upper}},
		{"the upper one is tighter by d", api.Limit{Lower: at("3", "0", 8), Upper: at("5", "-2", 9)}, nil},
		{"d does not outweigh", api.Limit{Lower: at("1", "9", 8), Upper: at("6", "-9", 9)}, []bound{lower, upper}},
		{"d does not outweigh, the other way", api.Limit{Lower: at("3", "-9", 8), Upper: at("4", "9", 9)}, nil},
		{"no lower one", api.Limit{Upper: at("4", "0", 9)}, []bound{lower}},
		{"no upper one", api.Limit{Lower: at("3", "0", 8)}, []bound{upper}},
		{"the wrong way round", api.Limit{Lower: at("9", "0", 8), Upper: at("-9", "0", 9)}, nil},
	} {
		limits := []api.Limit{{Lower: at("2", "1", 1), Upper: at("5", "-1", 2)}, c.has}
		var got []api.Implied
		for _, i := range implied.Tighter(row(1, "1", 0), limits) {
			if i.Var == 1 {
				got = append(got, i)
			}
		}
		wantBounds(t, c.what, got, c.want...)
	}
}

// What has no place has no bounds, so all that is implied of it is told.
func TestI2VariablesWithoutAPlace(t *testing.T) {
	limits := []api.Limit{fence(0, "1", "2")}
	for _, v := range []int{1, -1, math.MinInt, math.MaxInt} {
		wantBounds(t, "Tighter", implied.Tighter(row(v, "3", 0), limits), atLeast(v, "3", "0", by(0, "3")), atMost(v, "6", "0", by(1, "3")))
		wantBounds(t, "Tighter of v = 0", implied.Tighter(row(v), nil), zeroBounds(v)...)
	}
	wantBounds(t, "Tighter of 0 = 0", implied.Tighter(row(0, "1", 0), limits))
	wantBounds(t, "v0 = 0, from 0 to 0", implied.Tighter(row(0), []api.Limit{fence(0, "0", "0")}))
	wantBounds(t, "v0 = 0, from 1 to 2", implied.Tighter(row(0), limits), atMost(0, "0", "0", nil))
}

func TestI2AnyRows(t *testing.T) {
	fewer := 0
	eachRow(2, 6000, func(r *rand.Rand, row api.Row, limits []api.Limit) {
		want := tighterBounds(row, limits)
		wantBounds(t, fmt.Sprintf("Tighter of v%d = %v within %+v", row.Basic, polyOf(row.Form), limits), implied.Tighter(row, limits), want...)
		fewer += len(rowsBounds(row, limits)) - len(want)
	})
	if fewer < 1000 {
		t.Errorf("only %d bounds were not tighter", fewer)
	}
}

func wantNoTableau(t *testing.T, what string, of api.Tableau, limits []api.Limit) {
	t.Helper()
	l, e := implied.All(of, limits)
	wantErr(t, what, e, api.ErrTableau)
	wantBounds(t, what, l)
}

func TestI3TableausThatMayNotBe(t *testing.T) {
	good := row(2, "1", 0, "1", 1)
	for _, limits := range [][]api.Limit{nil, {fence(0, "1", "2"), fence(1, "3", "4"), fence(2, "5", "6")}} {
		for what, of := range map[string]api.Tableau{
			"below 0 variables":              {Vars: -1},
			"too many variables":             {Vars: api.MaxVars + 1},
			"Basic is no variable":           {Vars: 2, Rows: []api.Row{good}},
			"Basic is below 0":               {Vars: 3, Rows: []api.Row{good, row(-1, "1", 0)}},
			"a variable that is none":        {Vars: 3, Rows: []api.Row{row(2, "1", 3)}},
			"a variable below 0":             {Vars: 3, Rows: []api.Row{row(2, "1", -1)}},
			"two rows of one variable":       {Vars: 3, Rows: []api.Row{good, good}},
			"Basic in its own form":          {Vars: 3, Rows: []api.Row{row(2, "1", 0, "1", 2)}},
			"Basic in another row's form":    {Vars: 3, Rows: []api.Row{row(2, "1", 0), row(0, "1", 1)}},
			"only the last row may not be":   {Vars: 4, Rows: []api.Row{good, row(3, "1", 9)}},
			"the least and the greatest int": {Vars: math.MaxInt, Rows: []api.Row{row(math.MinInt)}},
		} {
			wantNoTableau(t, what, of, limits)
		}
	}
}

func TestI3WithoutRows(t *testing.T) {
	for _, of := range []api.Tableau{{}, {Vars: 3}, {Vars: api.MaxVars, Rows: []api.Row{}}} {
		l, e := implied.All(of, []api.Limit{fence(0, "1", "2")})
		wantErr(t, "All", e, api.OK)
		wantBounds(t, "All", l)
	}
}

func wantAll(t *testing.T, of api.Tableau, limits []api.Limit, want ...bound) {
	t.Helper()
	l, e := implied.All(of, limits)
	wantErr(t, "All", e, api.OK)
	wantBounds(t, "All", l, want...)
}

// By rising Basic, in whichever order the rows stand; each row of the limits that were handed in, whatever the rows ahead imply.
func TestI3RowsInAnyOrder(t *testing.T) {
	limits := []api.Limit{{Lower: at("1", "0", 1)}, {}, {}, {}, {Lower: at("7", "0", 2)}}
	two, four, one := row(2, "1", 0), row(4, "2", 0), row(1, "-1", 0, "5", 3, "-5", 3)
	want := []bound{atMost(1, "-1", "0", by(1, "1")), atLeast(2, "1", "0", by(1, "1")), atLeast(0, "7/2", "0", by(2, "1/2"))}
	for _, rows := range [][]api.Row{{one, two, four}, {four, two, one}, {two, four, one}, {four, one, two}} {
		wantAll(t, api.Tableau{Vars: 5, Rows: rows}, limits, want...)
	}
	wantAll(t, api.Tableau{Vars: 5, Rows: []api.Row{two, four}}, nil)
	wantAll(t, api.Tableau{Vars: 5, Rows: []api.Row{row(3)}}, limits, zeroBounds(3)...)
}

// someTableau has rows in any order, over the variables from 0 to 5.
func someTableau(r *rand.Rand) api.Tableau {
	out := api.Tableau{Vars: 6}
	order := r.Perm(6)
	basics := r.Intn(5)
	for _, b := range order[:basics] {
		f := someForm(r)
		for i := range f {
			f[i].Var = order[basics+r.Intn(6-basics)]
		}
		out.Rows = append(out.Rows, api.Row{Basic: b, Form: append(f, api.Mono{Var: b, Coef: zeros()[r.Intn(7)]})})
	}
	return out
}

func TestI3AnyTableaus(t *testing.T) {
	r := rand.New(rand.NewSource(3))
	for range 2000 {
		of, limits := someTableau(r), someLimits(r)
		var want []bound
		rows := slices.SortedFunc(slices.Values(of.Rows), func(a, b api.Row) int { return a.Basic - b.Basic })
		for _, row := range rows {
			want = append(want, tighterBounds(row, limits)...)
		}
		wantAll(t, of, limits, want...)
	}
}
