package optimum_test

import (
	"fmt"
	"math/big"
	"slices"
	"strings"
	"testing"

	"fulcrum/api"
	"fulcrum/optimum"
	"fulcrum/tableau"
)

// corner is forms, by their coefficients, that are at most 0, of variables that are at least 0: all of these bounds meet where everything is 0. The goal is to be as great as may be; want is its greatest value.
type corner struct {
	forms []string
	goal  string
	rule
	most string // the third variable's upper bound, which changes nothing of the steps in the corner; "" is none
	want string
}

// rule is how steps are chosen so that they go round: which of the parts that could help goes, and which of the variables that are stopped is taken.
type rule struct {
	goes  func(l api.Form) api.Mono
	stops func(l []int) int
}

func first(l api.Form) api.Mono { return l[0] }
func last(l api.Form) api.Mono  { return l[len(l)-1] }

// steepest is the part with the greatest coefficient.
func steepest(l api.Form) api.Mono {
	size := func(part api.Mono) *big.Rat { return new(big.Rat).Abs(ratIn(part.Coef)) }
	return slices.MaxFunc(l, func(a, b api.Mono) int { return size(a).Cmp(size(b)) })
}

var corners = []corner{
	{[]string{"-3 1 2", "4 0 -4", "-3 3 3", "1 -3 2"}, "4 2 2", rule{last, slices.Min[[]int]}, "", "0"},
	{[]string{"-3 4 2", "3 4 -2", "1 -2 4", "3 -3 -4"}, "2 3 3", rule{last, slices.Min[[]int]}, "", "0"},
	{[]string{"1/4 -60 -1/25 9", "1/2 -90 -1/50 3"}, "3/4 -150 1/50 -6", rule{steepest, slices.Min[[]int]}, "1", "1/20"}, // Beale's
	{[]string{"4 -2 -1 -2", "3 3 -4 4", "-2 4 2 2", "-1 2 -4 1", "2 -1 -4 1", "3 -1 -4 -2"}, "4 3 4 1", rule{first, slices.Max[[]int]}, "", "0"},
	{[]string{"4 -2 -3 -4 -4", "2 -1 -3 3 -1", "2 4 3 4 0", "-4 1 0 -1 4", "4 1 -1 -3 1"}, "1 2 4 -4 -4", rule{first, slices.Max[[]int]}, "", "0"},
}

// of is an affine form by its coefficients, its variables in another order.
func (c corner) of(text string, vars []int) api.Affine {
	out := affine("0")
	for i, coef := range strings.Fields(text) {
		out.Form = append(out.Form, api.Mono{Var: vars[i], Coef: num(coef)})
	}
	return out
}

// laid is the corner as a world, its variables and forms in another order.
func (c corner) laid(t *testing.T, vars, forms []int) *world {
	t.Helper()
	w := opened(t, len(vars))
	for v := range vars {
		w.lift(v, plain("0"))
	}
	for _, i := range forms {
		w.press(w.define(t, c.of(c.forms[i], vars).Form), plain("0"))
	}
	if c.most != "" {
		w.press(vars[2], plain(c.most))
	}
	return w
}

// wantRound: chosen by the corner's rule steps lead back to where they were.
func (c corner) wantRound(t *testing.T) {
	t.Helper()
	vars := len(strings.Fields(c.goal))
	w := c.laid(t, upTo(vars), upTo(len(c.forms)))
	rows, aim := w.s.Tableau(), c.of(c.goal, upTo(vars)).Form
	been := map[string]int{}
	for {
		basics, e := tableau.Basics(rows)
		wantErr(t, "Basics", e, api.OK)
		if been[fmt.Sprint(basics)]++; been[fmt.Sprint(basics)] > 1 {
			return
		}
		goal, e := tableau.Express(rows, aim)
		wantErr(t, "Express", e, api.OK)
		help := helpers(goal, vars)
		if len(help) == 0 {
			t.Fatalf("%v does not go round", c.forms)
		}
		v := c.goes(help).Var
		rows, e = tableau.Pivot(rows, c.stops(stopped(rows, v, vars)), v)
		wantErr(t, "Pivot", e, api.OK)
	}
}

// helpers are the parts whose variables may go so that the form grows: the first ones up, and those of the forms down.
func helpers(goal api.Form, vars int) api.Form {
	var out api.Form
	for _, part := range goal {
		if (ratIn(part.Coef).Sign() > 0) == (part.Var < vars) {
			out = append(out, part)
		}
	}
	return out
}

// stopped are the basic variables that can't go along with v.
func stopped(rows api.Tableau, v, vars int) []int {
	var out []int
	for _, row := range rows.Rows {
		sign := polyOf(row.Form).coef(v).Sign()
		if v >= vars {
			sign = -sign
		}
		if sign < 0 && row.Basic < vars || sign > 0 && row.Basic >= vars {
			out = append(out, row.Basic)
		}
	}
	return out
}

func upTo(n int) []int {
	var out []int
	for i := range n {
		out = append(out, i)
	}
	return out
}

// orders is all orders of so many things.
func orders(n int) [][]int {
	if n == 0 {
		return [][]int{nil}
	}
	var out [][]int
	for _, l := range orders(n - 1) {
		for i := range n {
			out = append(out, slices.Insert(slices.Clone(l), i, n-1))
		}
	}
	return out
}

func (c corner) wantEnds(t *testing.T, vars, forms []int) {
	t.Helper()
	w := c.laid(t, vars, forms)
	w.wantGreatest(t, c.of(c.goal, vars), api.OptAttained, plain(c.want))
	w.wantLeast(t, turned(c.of(c.goal, vars)), api.OptAttained, plain("-"+c.want))
	w.s.Check()
	w.wantGreatest(t, c.of(c.goal, vars), api.OptAttained, plain(c.want))
}

// Where steps of no length could go round, both end all the same, whatever the variables' numbers are.
func TestO1O2Corners(t *testing.T) {
	for _, c := range corners {
		c.wantRound(t)
		vars, forms := upTo(len(strings.Fields(c.goal))), upTo(len(c.forms))
		c.wantEnds(t, vars, forms)
		slices.Reverse(vars)
		c.wantEnds(t, vars, forms)
		slices.Reverse(forms)
		c.wantEnds(t, vars, forms)
	}
	for _, c := range corners[:3] {
		for _, vars := range orders(len(strings.Fields(c.goal))) {
			for _, forms := range orders(len(c.forms)) {
				c.wantEnds(t, vars, forms)
			}
		}
	}
}

// Of a corner, with one bound more, that is left at last.
func TestO1O2OutOfACorner(t *testing.T) {
	for _, c := range corners {
		vars := upTo(len(strings.Fields(c.goal)))
		for i := range c.forms {
			forms := slices.Delete(upTo(len(c.forms)), i, i+1)
			w := c.laid(t, vars, forms)
			w.press(w.define(t, c.of(c.forms[i], vars).Form), pair("3", "-1"))
			f := c.of(c.goal, vars)
			o, e := optimum.Greatest(w.s, f)
			want := w.span(f)
			w.wantEnd(t, "Greatest", o, e, f, want.empty, want.greatest, 1)
		}
	}
}
