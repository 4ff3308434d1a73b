package implied_test

import (
	"fmt"
	"math"
	"math/rand"
	"testing"

	"fulcrum/api"
	"fulcrum/implied"
)

// claimed is an implied bound as one hands it in.
func claimed(b bound) api.Implied {
	out := api.Implied{Var: b.v, Upper: b.upper, At: ofBoth(b.at)}
	for _, m := range b.by {
		out.By = append(out.By, api.Multiplier{Why: m.why, Coef: of(m.coef)})
	}
	return out
}

func wantCheck(t *testing.T, what string, got, want bool) {
	t.Helper()
	if got != want {
		t.Errorf("%s: %v", what, got)
	}
}

// checkedRow says that v2 is 3 v0 less 2 v1.
func checkedRow() (api.Row, []api.Limit) {
	return row(2, "3", 0, "-2", 1), []api.Limit{
		{Lower: at("1", "1", 10), Upper: at("2", "0", 11)}, {Lower: at("3", "0", 12), Upper: at("4", "-1", 13)},
	}
}

func TestI4At(t *testing.T) {
	r, limits := checkedRow()
	lower, upper := by(10, "3", 13, "2"), by(11, "3", 12, "2")
	for _, c := range []struct {
		what string
		of   bound
		want bool
	}{
		{"the lower one", atLeast(2, "-5", "5", lower), true},
		{"a looser lower one", atLeast(2, "-6", "0", lower), true},
		{"a lower one looser by d", atLeast(2, "-5", "4", lower), true},
		{"a looser one, for all its d", atLeast(2, "-6", "99", lower), true},
		{"a tighter lower one", atLeast(2, "-4", "0", lower), false},
		{"a lower one tighter by d", atLeast(2, "-5", "6", lower), false},
		{"a tighter one, for all its d", atLeast(2, "-4", "-99", lower), false},
		{"the upper one", atMost(2, "0", "0", upper), true},
		{"a looser upper one", atMost(2, "1", "0", upper), true},
		{"an upper one looser by d", atMost(2, "0", "1/9", upper), true},
		{"a tighter upper one", atMost(2, "-1", "0", upper), false},
		{"an upper one tighter by d", atMost(2, "0", "-1/9", upper), false},
		{"the lower one as an upper one", atMost(2, "-5", "5", lower), false},
		{"the upper one as a lower one", atLeast(2, "0", "0", upper), false},
		{"a looser upper one by what is the lower one's", atMost(2, "99", "0", lower), false},
		{"a looser lower one by what is the upper one's", atLeast(2, "-99", "0", upper), false},
	} {
		wantCheck(t, c.what, implied.Check(claimed(c.of), r, limits), c.want)
	}
}

func TestI4By(t *testing.T) {
	r, limits := checkedRow()
	for _, c := range []struct {
		what string
		by   []times
		want bool
	}{
		{"as it is", by(11, "3", 12, "2"), true},
		{"in another order", by(12, "2", 11, "3"), false},
		{"shorter", by(11, "3"), false},
		{"shorter at its beginning", by(12, "2"), false},
		{"empty", nil, false},
		{"longer", by(11, "3", 12, "2", 11, "0"), false},
		{"longer at its beginning", by(11, "0", 11, "3", 12, "2"), false},
		{"another why", by(10, "3", 12, "2"), false},
		{"another why behind", by(11, "3", 13, "2"), false},
		{"whys exchanged", by(12, "3", 11, "2"), false},
		{"another number", by(11, "3", 12, "3"), false},
		{"another number ahead", by(11, "4", 12, "2"), false},
		{"twice as much", by(11, "6", 12, "4"), false},
		{"a number with its sign", by(11, "3", 12, "-2"), false},
		{"a part of its own", by(11, "3", 12, "1", 12, "1"), false},
	} {
		wantCheck(t, c.what, implied.Check(claimed(atMost(2, "0", "0", c.by)), r, limits), c.want)
		wantCheck(t, c.what+", looser", implied.Check(claimed(atMost(2, "1", "0", c.by)), r, limits), c.want)
	}
}

func TestI4NumbersThatAreNotNormal(t *testing.T) {
	r, limits := checkedRow()
	i := claimed(atMost(2, "0", "0", by(11, "3", 12, "2")))
	for k := range i.By {
		i.By[k].Coef = otherwise(i.By[k].Coef)
	}
	for _, zero := range zeros() {
		i.At = api.Delta{A: zero, B: zero}
		wantCheck(t, "written otherwise", implied.Check(i, r, limits), true)
	}
	i.By[1].Coef.Den = nil
	wantCheck(t, "a number without a Den", implied.Check(i, r, limits), false)
}

func TestI4VariablesThatTheRowDoesNotHave(t *testing.T) {
	r, limits := checkedRow()
	r.Form = append(r.Form, form("1", 7, "0", 6, "-1", 7)...)
	for _, v := range []int{3, 6, 7, -1, math.MinInt, math.MaxInt} {
		for _, b := range []bound{atMost(v, "9", "0", by(11, "3", 12, "2")), atLeast(v, "-9", "0", by(10, "3", 13, "2")), atMost(v, "9", "0", nil), atLeast(v, "-9", "0", nil)} {
			wantCheck(t, fmt.Sprint("the variable ", v), implied.Check(claimed(b), r, limits), false)
		}
	}
	for _, v := range []int{0, 1} {
		wantCheck(t, "a bound that is not implied", implied.Check(claimed(atMost(v, "99", "0", by(12, "2/3", 0, "1/3"))), r, limits), false)
	}
	for _, limits := range [][]api.Limit{nil, {fence(1, "0", "0")}} {
		wantCheck(t, "0 = 0", implied.Check(claimed(atMost(1, "0", "0", nil)), row(1, "1", 1), limits), false)
		wantCheck(t, "v = 0", implied.Check(claimed(atMost(-1, "0", "0", nil)), row(-1), limits), true)
		wantCheck(t, "v = 0, looser", implied.Check(claimed(atLeast(-1, "-1", "0", nil)), row(-1), limits), true)
		wantCheck(t, "v = 0, tighter", implied.Check(claimed(atLeast(-1, "0", "1", nil)), row(-1), limits), false)
		wantCheck(t, "v = 0, by a bound", implied.Check(claimed(atLeast(-1, "0", "0", by(0, "0"))), row(-1), limits), false)
	}
}

// Two multipliers that are alike may stand in either order: that is the same By.
func TestI4WhysThatAreAlike(t *testing.T) {
	limits := []api.Limit{{Lower: at("1", "0", 5)}, {Lower: at("2", "0", 5)}}
	wantCheck(t, "alike", implied.Check(claimed(atLeast(2, "3", "0", by(5, "1", 5, "1"))), row(2, "1", 0, "1", 1), limits), true)
	wantCheck(t, "joined", implied.Check(claimed(atLeast(2, "3", "0", by(5, "2"))), row(2, "1", 0, "1", 1), limits), false)
}

// spoilt is a bound with one thing changed, or none.
func spoilt(r *rand.Rand, i api.Implied) api.Implied {
	b := told([]api.Implied{i})[0]
	switch r.Intn(8) {
	case 0:
		b.v = someVar(r)
	case 1:
		b.upper = !b.upper
	case 2, 3:
		b.at = b.at.plus(one(), both{ratIn(someCoef(r)), ratIn(someCoef(r))})
	case 4:
		b.at = b.at.plus(one(), both{bigNum("0"), ratIn(someCoef(r))})
	case 5:
		if len(b.by) > 0 {
			b.by[r.Intn(len(b.by))].why++
		}
	case 6:
		b.by = append(b.by, b.by...)
	}
	return claimed(b)
}

func TestI4AnyBounds(t *testing.T) {
	count := map[bool]int{}
	eachRow(4, 3000, func(r *rand.Rand, row api.Row, limits []api.Limit) {
		for _, i := range implied.Row(row, limits) {
			wantCheck(t, "what Row tells", implied.Check(i, row, limits), true)
			other := spoilt(r, i)
			want := follows(other, row, limits)
			count[want]++
			wantCheck(t, fmt.Sprintf("Check of %v by v%d = %v within %+v", told([]api.Implied{other}), row.Basic, polyOf(row.Form), limits), implied.Check(other, row, limits), want)
		}
	})
	if count[true] < 500 || count[false] < 500 {
		t.Errorf("too few of either kind: %v", count)
	}
}
