package tableau_test

import (
	"math"
	"math/rand"
	"slices"
	"testing"

	"fulcrum/api"
	"fulcrum/tableau"
)

// pivotOf is what a pivot makes, or its error: by T8 the same values keep it, and there is one tableau alone that they keep and that has these basic variables.
func pivotOf(x api.Tableau, s system, basic, other int) (system, api.Errno) {
	for _, v := range []int{basic, other} {
		if e := varError(x, s, v, false); e == api.ErrTableau || e == api.ErrVar {
			return nil, e
		}
	}
	if varError(x, s, basic, true) != api.OK || varError(x, s, other, false) != api.OK {
		return nil, api.ErrBasic
	}
	if s[basic].at(other).Sign() == 0 {
		return nil, api.ErrPivot
	}
	order := []int{other}
	for _, b := range s.basics() {
		if b != basic {
			order = append(order, b)
		}
	}
	return eliminated(s.equations(), order), api.OK
}

func wantPivot(t *testing.T, x api.Tableau, s system, basic, other int) api.Errno {
	t.Helper()
	want, wantE := pivotOf(x, s, basic, other)
	y, e := tableau.Pivot(x, basic, other)
	wantErr(t, "Pivot of "+text(x), e, wantE)
	if e != api.OK {
		wantNoTableau(t, "Pivot", y)
		return e
	}
	wantTableau(t, "Pivot of "+text(x), y, x.Vars, want)
	return e
}

func TestT5Pivot(t *testing.T) {
	seen := map[api.Errno]int{}
	eachTableau(8, func(r *rand.Rand, x api.Tableau, s system) {
		vars := edgeVars(x)
		for _, b := range vars {
			for _, o := range vars {
				seen[wantPivot(t, x, s, b, o)]++
			}
		}
	})
	for _, e := range []api.Errno{api.OK, api.ErrTableau, api.ErrVar, api.ErrBasic, api.ErrPivot} {
		if seen[e] < 1000 {
			t.Fatalf("what was answered: %v", seen)
		}
	}
}

func TestT5PivotAtItsEdges(t *testing.T) {
	x := rows(6, row(5, "2", 0, "-4", 1), row(2, "1", 1, "3", 3), row(4, "-1", 0, "2", 1))
	wantSame(t, "Pivot", pivoted(t, x, 5, 0), rows(6, row(0, "2", 1, "1/2", 5), row(2, "1", 1, "3", 3), row(4, "-1/2", 5)))
	wantSame(t, "Pivot", pivoted(t, x, 5, 1), rows(6, row(1, "1/2", 0, "-1/4", 5), row(2, "1/2", 0, "3", 3, "-1/4", 5), row(4, "-1/2", 5)))
	wantSame(t, "Pivot", pivoted(t, x, 2, 3), rows(6, row(3, "-1/3", 1, "1/3", 2), row(4, "-1", 0, "2", 1), row(5, "2", 0, "-4", 1)))
	wantSame(t, "Pivot of one part", pivoted(t, rows(2, row(0, "-1/3", 1)), 0, 1), rows(2, row(1, "-3", 0)))
	for _, c := range []struct {
		basic, other int
		want         api.Errno
	}{
		{-1, 0, api.ErrVar}, {6, 0, api.ErrVar}, {5, -1, api.ErrVar}, {5, 6, api.ErrVar}, {math.MinInt, math.MaxInt, api.ErrVar}, {0, 6, api.ErrVar}, {-1, 5, api.ErrVar},
		{0, 1, api.ErrBasic}, {0, 0, api.ErrBasic}, {5, 5, api.ErrBasic}, {5, 2, api.ErrBasic}, {0, 5, api.ErrBasic}, {3, 5, api.ErrBasic},
		{5, 3, api.ErrPivot}, {2, 0, api.ErrPivot}, {4, 3, api.ErrPivot},
	} {
		y, e := tableau.Pivot(x, c.basic, c.other)
		wantErr(t, "Pivot", e, c.want)
		wantNoTableau(t, "Pivot", y)
	}
	for _, zero := range zeros() {
		y := rows(3, api.Row{Basic: 0, Form: api.Form{{Var: 1, Coef: zero}, {Var: 2, Coef: num("1")}}})
		_, e := tableau.Pivot(y, 0, 1)
		wantErr(t, "Pivot", e, api.ErrPivot)
	}
	_, e := tableau.Pivot(rows(3, row(0, "1/2", 1, "1", 2, "1/2", 1, "-1", 1)), 0, 1)
	wantErr(t, "Pivot where the parts cancel one another", e, api.ErrPivot)
	for _, y := range mayNotBe() {
		wantPivot(t, y, nil, -1, 70000)
	}
}

// A row is left alone, as it is, if other does not stand in it.
func TestT5RowsWithoutOther(t *testing.T) {
	eachPivot(9, func(r *rand.Rand, x api.Tableau, b, o int) {
		s, _ := systemOf(x)
		y, _ := systemOf(pivoted(t, x, b, o))
		for v, p := range s {
			if v != b && p.at(o).Sign() == 0 && !p.same(y[v]) {
				t.Fatalf("Pivot of %s by %d and %d: %d is %v", text(x), b, o, v, y[v])
			}
		}
	})
}

func TestT8PivotedBack(t *testing.T) {
	eachPivot(10, func(r *rand.Rand, x api.Tableau, b, o int) {
		want, _ := tableau.Norm(x)
		wantSame(t, "Pivot of "+text(x), pivoted(t, pivoted(t, x, b, o), o, b), want)
	})
}

func wantSameIs(t *testing.T, x, y api.Tableau, want bool) {
	t.Helper()
	for _, pair := range [][2]api.Tableau{{x, y}, {y, x}} {
		same, e := tableau.Same(pair[0], pair[1])
		wantErr(t, "Same", e, api.OK)
		if same != want {
			t.Fatalf("Same of %s and %s: %v", text(pair[0]), text(pair[1]), same)
		}
	}
}

func TestT8PivotKeepsTheValues(t *testing.T) {
	eachPivot(11, func(r *rand.Rand, x api.Tableau, b, o int) {
		wantSameIs(t, x, pivoted(t, x, b, o), true)
	})
}

// After many pivots, each of variables that can change places, the same values keep it still, and it is the one that its basic variables make.
func TestT8ManyPivots(t *testing.T) {
	r := rand.New(rand.NewSource(12))
	for range 60 {
		x := someTableau(r)
		s, _ := systemOf(x)
		y, _ := tableau.Norm(x)
		for range 25 {
			now, _ := systemOf(y)
			for _, b := range now.basics() {
				if l := now[b].vars(); len(l) > 0 && r.Intn(3) == 0 {
					y = pivoted(t, y, b, l[r.Intn(len(l))])
					break
				}
			}
		}
		wantSameIs(t, x, y, true)
		now, _ := systemOf(y)
		wantTableau(t, "many pivots", y, x.Vars, eliminated(s.equations(), now.basics()))
	}
}

func TestT7Same(t *testing.T) {
	seen := map[bool]int{}
	eachTableau(13, func(r *rand.Rand, x api.Tableau, s system) {
		y := someTableau(r)
		if s == nil {
			for _, pair := range [][2]api.Tableau{{x, y}, {y, x}, {x, x}} {
				same, e := tableau.Same(pair[0], pair[1])
				wantErr(t, "Same", e, api.ErrTableau)
				if same {
					t.Fatal("Same beside an error")
				}
			}
			return
		}
		for range 4 {
			y = near(r, x)
			o, ok := systemOf(y)
			if !ok || y.Vars != x.Vars || x.Vars > 9 {
				continue
			}
			want := s.keptBySame(o, x.Vars)
			wantSameIs(t, x, y, want)
			seen[want]++
		}
		wantSameIs(t, x, x, true)
	})
	if seen[true] < 1000 || seen[false] < 1000 {
		t.Fatalf("what was answered: %v", seen)
	}
}

// near is x pivoted, mostly with one thing otherwise.
func near(r *rand.Rand, x api.Tableau) api.Tableau {
	s, _ := systemOf(x)
	y, _ := tableau.Norm(x)
	for _, b := range s.basics() {
		if l := s[b].vars(); len(l) > 0 && r.Intn(2) == 0 {
			y, _ = tableau.Pivot(x, b, l[r.Intn(len(l))])
			break
		}
	}
	if len(y.Rows) == 0 {
		return y
	}
	i := r.Intn(len(y.Rows))
	switch r.Intn(6) {
	case 0:
		y.Rows = slices.Delete(y.Rows, i, i+1)
	case 1:
		y.Rows[i].Form = append(y.Rows[i].Form, api.Mono{Var: r.Intn(x.Vars), Coef: smallRat(r)})
	case 2:
		y.Rows[i].Form = nil
	}
	return y
}

func TestT7SameAtItsEdges(t *testing.T) {
	wantSameIs(t, api.Tableau{}, api.Tableau{Rows: []api.Row{}}, true)
	wantSameIs(t, rows(2, row(0, "1", 1)), rows(2, row(1, "1", 0)), true)
	wantSameIs(t, rows(2, row(0, "2", 1)), rows(2, row(1, "1/2", 0)), true)
	wantSameIs(t, rows(2, row(0, "2", 1)), rows(2, row(1, "2", 0)), false)
	wantSameIs(t, rows(2, row(0)), rows(2, row(1)), false)
	wantSameIs(t, rows(2, row(0), row(1)), rows(2, row(1), row(0)), true)
	wantSameIs(t, rows(2, row(0)), rows(2, row(0, "0", 0, "1", 7, "-1", 7)), true)
	// one has a row more: what keeps it keeps the other one, but not the other way round
	wantSameIs(t, rows(3, row(0, "1", 2), row(1, "1", 2)), rows(3, row(0, "1", 2)), false)
	wantSameIs(t, rows(3, row(0, "1", 2), row(1, "1", 2)), rows(3), false)
	wantSameIs(t, rows(3, row(0, "1", 2), row(1, "1", 2)), rows(3, row(2, "1", 0), row(1, "1", 0)), true)
	wantSameIs(t, rows(3, row(0, "1", 2), row(1, "1", 2)), rows(3, row(2, "1", 0), row(1, "2", 0)), false)
	wantSameIs(t, begun(), rows(4, row(0, "1/2", 2, "1/2", 3), row(1, "1/2", 2, "-1/2", 3)), true)
	wantSameIs(t, rows(65536, row(65535, "3", 0)), rows(65536, row(0, "1/3", 65535)), true)
}

func TestT7SameErrors(t *testing.T) {
	wrong := rows(2, row(0, "1", 0))
	for _, c := range []struct {
		a, b api.Tableau
		want api.Errno
	}{
		{rows(2), rows(3), api.ErrArg}, {rows(3), rows(2), api.ErrArg}, {rows(0), rows(65536), api.ErrArg}, {begun(), rows(5, begun().Rows...), api.ErrArg},
		{wrong, rows(3), api.ErrTableau}, {rows(3), wrong, api.ErrTableau}, {wrong, rows(2), api.ErrTableau}, {rows(2), wrong, api.ErrTableau}, {wrong, wrong, api.ErrTableau}, {rows(-1), rows(-1), api.ErrTableau}, {rows(65537), rows(65536), api.ErrTableau},
	} {
		same, e := tableau.Same(c.a, c.b)
		wantErr(t, "Same", e, c.want)
		if same {
			t.Fatal("Same beside an error")
		}
	}
}

// A map is gone through in another order each time; no answer may tell.
func TestR4NoOrderOfAMapIsSeen(t *testing.T) {
	r := rand.New(rand.NewSource(14))
	big := api.Tableau{Vars: 60}
	for _, b := range r.Perm(40) {
		f := form("1", 40+b%20)
		for range 9 {
			f = append(f, api.Mono{Var: 40 + r.Intn(20), Coef: smallRat(r)})
		}
		big.Rows = append(big.Rows, api.Row{Basic: b, Form: f})
	}
	s, _ := systemOf(big)
	column := s[0].vars()[0]
	wantNow := func() (string, []int) {
		y := pivoted(t, big, 0, column)
		basics, _ := tableau.Basics(y)
		others, _ := tableau.Others(y)
		l, _ := tableau.Column(y, 0)
		grown, _, _ := tableau.Grow(y)
		more, _, _ := tableau.Define(y, form("1", 0, "1", 1, "1", 2))
		f, _ := tableau.Express(y, form("1", 3, "2", 4, "3", 5))
		return text(y) + text(grown) + text(more) + text(rows(0, api.Row{Form: f})), slices.Concat(basics, others, l)
	}
	said, list := wantNow()
	for range 25 {
		again, other := wantNow()
		if again != said || !slices.Equal(other, list) {
			t.Fatal("two calls have answered otherwise")
		}
	}
}
