package tableau_test

import (
	"math"
	"math/rand"
	"slices"
	"testing"

	"fulcrum/api"
	"fulcrum/tableau"
)

func TestT1New(t *testing.T) {
	for _, c := range []struct {
		vars int
		want api.Errno
	}{
		{0, api.OK}, {1, api.OK}, {2, api.OK}, {1000, api.OK}, {65535, api.OK}, {65536, api.OK},
		{65537, api.ErrFull}, {65538, api.ErrFull}, {math.MaxInt, api.ErrFull}, {-1, api.ErrArg}, {-2, api.ErrArg}, {math.MinInt, api.ErrArg},
	} {
		x, e := tableau.New(c.vars)
		wantErr(t, "New", e, c.want)
		if e != api.OK {
			wantNoTableau(t, "New", x)
			continue
		}
		wantTableau(t, "New", x, c.vars, system{})
		wantErr(t, "Check of New", tableau.Check(x), api.OK)
	}
}

// mayBeSo is ErrTableau of what may not be.
func mayBeSo(s system) api.Errno {
	if s == nil {
		return api.ErrTableau
	}
	return api.OK
}

func TestT1CheckAndNorm(t *testing.T) {
	right, wrong := 0, 0
	eachTableau(1, func(r *rand.Rand, x api.Tableau, s system) {
		wantErr(t, "Check of "+text(x), tableau.Check(x), mayBeSo(s))
		y, e := tableau.Norm(x)
		wantErr(t, "Norm of "+text(x), e, mayBeSo(s))
		if s == nil {
			wrong++
			wantNoTableau(t, "Norm", y)
			return
		}
		right++
		wantTableau(t, "Norm of "+text(x), y, x.Vars, s)
		wantErr(t, "Check of "+text(y), tableau.Check(y), api.OK)
	})
	if right < 1000 || wrong < 200 {
		t.Fatalf("%d that may be, %d that may not", right, wrong)
	}
}

func TestT1EdgesOfWhatMayBe(t *testing.T) {
	for _, x := range mayBe() {
		wantErr(t, "Check of "+text(x), tableau.Check(x), api.OK)
	}
	for _, x := range mayNotBe() {
		wantErr(t, "Check of "+text(x), tableau.Check(x), api.ErrTableau)
	}
}

// No variable's number is too great to be basic, or to stand in a form; the same rows in any order are one tableau.
func TestT1AllVariables(t *testing.T) {
	const most = 65536
	all := api.Tableau{Vars: most}
	want := system{}
	for v := range most {
		at := v ^ 0x5a5a
		if at%2 == 0 {
			all.Rows = append(all.Rows, row(at, "1", at+1))
			want[at] = poly{at + 1: one()}
		}
	}
	x, e := tableau.Norm(all)
	wantErr(t, "Norm", e, api.OK)
	wantTableau(t, "Norm", x, most, want)
	all.Rows[77].Form = form("1", all.Rows[78].Basic)
	wantErr(t, "Check", tableau.Check(all), api.ErrTableau)
}

func TestT2Grow(t *testing.T) {
	eachTableau(2, func(r *rand.Rand, x api.Tableau, s system) {
		y, v, e := tableau.Grow(x)
		switch {
		case s == nil:
			wantErr(t, "Grow of "+text(x), e, api.ErrTableau)
		case x.Vars == 65536:
			wantErr(t, "Grow of "+text(x), e, api.ErrFull)
		default:
			wantErr(t, "Grow of "+text(x), e, api.OK)
			wantTableau(t, "Grow of "+text(x), y, x.Vars+1, s)
			if v != x.Vars {
				t.Fatalf("Grow of %s: %d", text(x), v)
			}
			return
		}
		wantNoTableau(t, "Grow", y)
		if v != 0 {
			t.Fatalf("Grow of %s: %d beside an error", text(x), v)
		}
	})
}

func TestT2GrowAtItsEdges(t *testing.T) {
	x, v, e := tableau.Grow(rows(65535, row(3, "1", 4)))
	wantErr(t, "Grow", e, api.OK)
	wantTableau(t, "Grow", x, 65536, system{3: poly{4: one()}})
	if v != 65535 {
		t.Fatalf("Grow: %d", v)
	}
	_, _, e = tableau.Grow(x)
	wantErr(t, "Grow", e, api.ErrFull)
	_, _, e = tableau.Grow(rows(65536, row(3, "1", 3)))
	wantErr(t, "Grow", e, api.ErrTableau)
}

// formError is the error of a form over a tableau.
func formError(x api.Tableau, s system, f api.Form) api.Errno {
	if s == nil {
		return api.ErrTableau
	}
	for v := range in(f) {
		if v < 0 || v >= x.Vars {
			return api.ErrVar
		}
	}
	return api.OK
}

func wantDefine(t *testing.T, x api.Tableau, s system, f api.Form) api.Errno {
	t.Helper()
	want := formError(x, s, f)
	if want == api.OK && x.Vars == 65536 {
		want = api.ErrFull
	}
	y, v, e := tableau.Define(x, f)
	wantErr(t, "Define over "+text(x), e, want)
	if e != api.OK {
		wantNoTableau(t, "Define", y)
		if v != 0 {
			t.Fatalf("Define: %d beside an error", v)
		}
		return e
	}
	if v != x.Vars {
		t.Fatalf("Define over %s: %d", text(x), v)
	}
	longer := system{v: s.express(in(f))}
	for b, p := range s {
		longer[b] = p
	}
	wantTableau(t, "Define over "+text(x), y, x.Vars+1, longer)
	return e
}

func TestT2Define(t *testing.T) {
	seen := map[api.Errno]int{}
	eachTableau(3, func(r *rand.Rand, x api.Tableau, s system) {
		for range 4 {
			seen[wantDefine(t, x, s, anyForm(r, x.Vars))]++
		}
		wantDefine(t, x, s, nil)
	})
	if seen[api.OK] < 1000 || seen[api.ErrTableau] < 1000 || seen[api.ErrVar] < 100 || seen[api.ErrFull] == 0 {
		t.Fatalf("what was answered: %v", seen)
	}
}

func TestT2DefineAtItsEdges(t *testing.T) {
	for _, f := range []api.Form{nil, {}, form("1", 0), form("1", 3), form("1", 4), form("1", -1), form("0", 4, "0", -1), form("1", 9, "-1", 9), form("1", 2, "-1", 3), form("1", 2, "-1", 0, "-1", 1), form("1", 65535), form("1", 65536)} {
		for _, x := range []api.Tableau{{}, {Vars: 1}, begun(), {Vars: 65535}, {Vars: 65536}, rows(65536, row(1, "1", 2)), rows(65536, row(1, "1", 1))} {
			s, _ := systemOf(x)
			wantDefine(t, x, s, f)
		}
	}
	_, _, e := tableau.Define(api.Tableau{Vars: 65536}, form("1", 65536))
	wantErr(t, "Define of no variable over a full one", e, api.ErrVar)
	_, _, e = tableau.Define(api.Tableau{Vars: 65536}, form("0", 65536))
	wantErr(t, "Define over a full one", e, api.ErrFull)
}

// varError is the error of a variable that must be basic, or must not.
func varError(x api.Tableau, s system, v int, asked bool) api.Errno {
	_, basic := s[v]
	switch {
	case s == nil:
		return api.ErrTableau
	case v < 0 || v >= x.Vars:
		return api.ErrVar
	case basic != asked:
		return api.ErrBasic
	}
	return api.OK
}

func edgeVars(x api.Tableau) []int {
	return append([]int{-1, math.MinInt, x.Vars, math.MaxInt, 65535, 65536}, below(min(max(x.Vars, 0), 9))...)
}

func TestT3Row(t *testing.T) {
	eachTableau(4, func(r *rand.Rand, x api.Tableau, s system) {
		for _, v := range edgeVars(x) {
			f, e := tableau.Row(x, v)
			wantErr(t, "Row of "+text(x), e, varError(x, s, v, true))
			wantForm(t, "Row of "+text(x), f, s[v])
		}
	})
}

func TestT3BasicsAndOthers(t *testing.T) {
	eachTableau(5, func(r *rand.Rand, x api.Tableau, s system) {
		basics, e := tableau.Basics(x)
		wantErr(t, "Basics of "+text(x), e, mayBeSo(s))
		wantInts(t, "Basics of "+text(x), basics, s.basics()...)
		others, e := tableau.Others(x)
		wantErr(t, "Others of "+text(x), e, mayBeSo(s))
		var want []int
		for v := 0; v < x.Vars && s != nil; v++ {
			if _, basic := s[v]; !basic {
				want = append(want, v)
			}
		}
		wantInts(t, "Others of "+text(x), others, want...)
	})
}

func TestT3Column(t *testing.T) {
	long := 0
	eachTableau(6, func(r *rand.Rand, x api.Tableau, s system) {
		for _, v := range edgeVars(x) {
			var want []int
			for _, b := range s.basics() {
				if s[b].at(v).Sign() != 0 {
					want = append(want, b)
				}
			}
			column, e := tableau.Column(x, v)
			wantErr(t, "Column of "+text(x), e, varError(x, s, v, false))
			wantInts(t, "Column of "+text(x), column, want...)
			if len(want) > 1 {
				long++
			}
		}
	})
	if long < 200 {
		t.Fatalf("%d columns of more than one row alone", long)
	}
}

func TestT3WrongVariables(t *testing.T) {
	for v, want := range map[int]api.Errno{-1: api.ErrVar, 4: api.ErrVar, math.MaxInt: api.ErrVar, math.MinInt: api.ErrVar, 0: api.ErrBasic, 1: api.ErrBasic, 2: api.OK, 3: api.OK} {
		_, e := tableau.Row(begun(), v)
		wantErr(t, "Row", e, want)
		if want == api.OK || want == api.ErrBasic {
			want = api.ErrBasic - want
		}
		_, e = tableau.Column(begun(), v)
		wantErr(t, "Column", e, want)
	}
}

func wantExpress(t *testing.T, x api.Tableau, s system, f api.Form) {
	t.Helper()
	g, e := tableau.Express(x, f)
	wantErr(t, "Express over "+text(x), e, formError(x, s, f))
	if e != api.OK {
		wantForm(t, "Express beside an error", g, nil)
		return
	}
	wantForm(t, "Express over "+text(x), g, s.express(in(f)))
	for _, part := range g {
		if slices.Contains(s.basics(), part.Var) {
			t.Fatalf("Express over %s: %v has a basic variable", text(x), in(g))
		}
	}
}

func TestT4Express(t *testing.T) {
	eachTableau(7, func(r *rand.Rand, x api.Tableau, s system) {
		for range 4 {
			wantExpress(t, x, s, anyForm(r, x.Vars))
		}
		wantExpress(t, x, s, nil)
		for _, v := range edgeVars(x) {
			wantExpress(t, x, s, form("1", v))
			wantExpress(t, x, s, form("0", v))
		}
	})
}

func TestT4ExpressAtItsEdges(t *testing.T) {
	for _, c := range []struct{ f, want api.Form }{
		{nil, nil}, {form("0", 9, "0", -1), nil}, {form("1", 9, "-1", 9), nil}, {form("1", 0), form("1", 0)}, {form("1", 2), form("1", 0, "1", 1)}, {form("1", 3, "1", 2), form("2", 0)},
		{form("1", 2, "-1", 0, "-1", 1), nil}, {form("1/2", 2, "-1/2", 3), form("1", 1)}, {form("3", 1, "1", 3, "1", 0), form("2", 0, "2", 1)}, {form("1", 2, "1", 2), form("2", 0, "2", 1)},
	} {
		g, e := tableau.Express(begun(), c.f)
		wantErr(t, "Express", e, api.OK)
		wantForm(t, "Express", g, in(c.want))
	}
	for _, v := range []int{4, -1, math.MaxInt, math.MinInt} {
		_, e := tableau.Express(begun(), form("1", 0, "1/7", v, "1", 2))
		wantErr(t, "Express", e, api.ErrVar)
	}
}
