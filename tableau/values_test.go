package tableau_test

import (
	"math/big"
	"math/rand"
	"slices"
	"testing"

	"fulcrum/api"
	"fulcrum/linear"
	"fulcrum/tableau"
)

// both is a Delta's two numbers.
type both [2]*big.Rat

func bothIn(vals []api.Delta) []both {
	var out []both
	for _, d := range vals {
		out = append(out, both{ratIn(d.A), ratIn(d.B)})
	}
	return out
}

// valueOf is a poly's value; each of the two numbers is a value of its own.
func valueOf(p poly, vals []both) both {
	out := both{new(big.Rat), new(big.Rat)}
	for v, c := range p {
		for i := range out {
			out[i] = sum(out[i], product(c, vals[v][i]))
		}
	}
	return out
}

func (a both) same(b both) bool { return a[0].Cmp(b[0]) == 0 && a[1].Cmp(b[1]) == 0 }

func (s system) keptBy(vals []both) bool {
	for v, p := range s {
		if !vals[v].same(valueOf(p, vals)) {
			return false
		}
	}
	return true
}

func (s system) extend(vals []both) []both {
	out := slices.Clone(vals)
	for v, p := range s {
		out[v] = valueOf(p, vals)
	}
	return out
}

func wantDeltas(t *testing.T, what string, got []api.Delta, want []both) {
	t.Helper()
	if len(got) != len(want) {
		t.Fatalf("%s: %v, not %v", what, got, want)
	}
	for i, d := range got {
		if !isNormal(d.A) || !isNormal(d.B) || !want[i].same(both{ratIn(d.A), ratIn(d.B)}) {
			t.Fatalf("%s: %v, not %v", what, got, want)
		}
	}
}

func wantHolds(t *testing.T, x api.Tableau, vals []api.Delta, want bool) {
	t.Helper()
	ok, e := tableau.Holds(x, vals)
	wantErr(t, "Holds of "+text(x), e, api.OK)
	if ok != want {
		t.Fatalf("Holds of %s: %v of %v", text(x), ok, bothIn(vals))
	}
}

func extended(t *testing.T, x api.Tableau, vals []api.Delta) []api.Delta {
	t.Helper()
	out, e := tableau.Extend(x, vals)
	wantErr(t, "Extend of "+text(x), e, api.OK)
	return out
}

// wantNoValues asks both calls for an error, and for nothing beside it.
func wantNoValues(t *testing.T, x api.Tableau, vals []api.Delta, want api.Errno) {
	t.Helper()
	l, e := tableau.Extend(x, vals)
	wantErr(t, "Extend of "+text(x), e, want)
	ok, e := tableau.Holds(x, vals)
	wantErr(t, "Holds of "+text(x), e, want)
	if len(l) != 0 || ok {
		t.Fatalf("%v, %v beside an error", l, ok)
	}
}

func TestT6Extend(t *testing.T) {
	eachTableau(20, func(r *rand.Rand, x api.Tableau, s system) {
		for many := range 10 {
			vals := someDeltas(r, many)
			switch {
			case s == nil:
				wantNoValues(t, x, vals, api.ErrTableau)
			case many != x.Vars:
				wantNoValues(t, x, vals, api.ErrArg)
			default:
				wantDeltas(t, "Extend of "+text(x), extended(t, x, vals), s.extend(bothIn(vals)))
				wantHolds(t, x, vals, s.keptBy(bothIn(vals)))
			}
		}
	})
}

// written is the same values, not in lowest terms.
func written(vals []api.Delta) []api.Delta {
	var out []api.Delta
	for _, d := range vals {
		out = append(out, api.Delta{A: otherwise(d.A), B: otherwise(d.B)})
	}
	return out
}

// One number of one variable otherwise, be it that of the delta alone: a row is broken just if the variable is basic or stands in one.
func TestT6HoldsAsksForEachRow(t *testing.T) {
	eachTableau(21, func(r *rand.Rand, x api.Tableau, s system) {
		if s == nil || x.Vars > 9 {
			return
		}
		vals := extended(t, x, someDeltas(r, x.Vars))
		wantHolds(t, x, vals, true)
		wantHolds(t, x, written(vals), true)
		for v := range x.Vars {
			_, touched := s[v]
			for _, p := range s {
				touched = touched || p.at(v).Sign() != 0
			}
			ahead := slices.Clone(vals)
			ahead[v].A = of(sum(ratIn(vals[v].A), bigNum("1/1000000000000000000000")))
			wantHolds(t, x, ahead, !touched)
			behind := slices.Clone(vals)
			behind[v].B = of(sum(ratIn(vals[v].B), bigNum("-1/3")))
			wantHolds(t, x, behind, !touched)
		}
	})
}

func pair(a, b string) api.Delta { return api.Delta{A: num(a), B: num(b)} }

func TestT6ValuesAtTheirEdges(t *testing.T) {
	l := []api.Delta{pair("3", "1"), pair("1", "-1/2"), pair("9", "9"), {A: api.Rat{Den: api.Nat{2, 0}}}}
	got := extended(t, begun(), l)
	wantDeltas(t, "Extend", got, bothIn([]api.Delta{pair("3", "1"), pair("1", "-1/2"), pair("4", "1/2"), pair("2", "3/2")}))
	wantHolds(t, begun(), got, true)
	wantHolds(t, begun(), l, false)
	wantHolds(t, begun(), []api.Delta{pair("3", "1"), pair("1", "-1/2"), pair("4", "1/2"), pair("2", "1")}, false)
	wantHolds(t, begun(), []api.Delta{pair("3", "1"), pair("1", "-1/2"), pair("4", "0"), pair("2", "3/2")}, false)
	for _, short := range [][]api.Delta{nil, {}, l[:1], l[:3], append(slices.Clone(l), pair("0", "0"))} {
		wantNoValues(t, begun(), short, api.ErrArg)
		wantNoValues(t, rows(4, row(2, "1", 2)), short, api.ErrTableau)
	}
	wantNoValues(t, rows(-1), nil, api.ErrTableau)
	wantNoValues(t, rows(-1), l, api.ErrTableau)
	wantDeltas(t, "Extend of nothing", extended(t, api.Tableau{}, nil), nil)
	wantHolds(t, api.Tableau{}, []api.Delta{}, true)
	wantNoValues(t, api.Tableau{}, l, api.ErrArg)
	wantDeltas(t, "Extend by the empty form", extended(t, rows(2, row(0)), []api.Delta{pair("5", "5"), pair("1/2", "7")}), bothIn([]api.Delta{pair("0", "0"), pair("1/2", "7")}))
	wantHolds(t, rows(1, row(0)), []api.Delta{pair("0", "1")}, false)
	for _, zero := range zeros() {
		wantHolds(t, rows(1, row(0)), []api.Delta{{A: zero, B: zero}}, true)
		wantDeltas(t, "Extend of 0", extended(t, rows(1), []api.Delta{{A: zero, B: zero}}), bothIn([]api.Delta{pair("0", "0")}))
	}
}

// Of values that keep all rows nothing is changed by Extend, whatever the basic variables' values were: so they hang on the others' alone.
func TestT8OnlyOneList(t *testing.T) {
	eachTableau(22, func(r *rand.Rand, x api.Tableau, s system) {
		if s == nil || x.Vars > 9 {
			return
		}
		vals := someDeltas(r, x.Vars)
		got := extended(t, x, vals)
		wantHolds(t, x, got, true)
		for v := range x.Vars {
			if _, basic := s[v]; basic {
				vals[v] = pair("77/2", "-5")
			}
		}
		wantDeltas(t, "Extend", extended(t, x, vals), bothIn(got))
		wantDeltas(t, "Extend twice", extended(t, x, got), bothIn(got))
	})
}

func TestT8PivotKeepsValues(t *testing.T) {
	eachPivot(23, func(r *rand.Rand, x api.Tableau, b, o int) {
		if x.Vars > 9 {
			return
		}
		y := pivoted(t, x, b, o)
		wantHolds(t, y, extended(t, x, someDeltas(r, x.Vars)), true)
		wantHolds(t, x, extended(t, y, someDeltas(r, x.Vars)), true)
	})
}

func TestT8ExpressSaysWhatItIsGiven(t *testing.T) {
	eachTableau(24, func(r *rand.Rand, x api.Tableau, s system) {
		if s == nil || x.Vars > 9 {
			return
		}
		vals := extended(t, x, someDeltas(r, x.Vars))
		f := formOver(r, below(x.Vars))
		g, e := tableau.Express(x, f)
		wantErr(t, "Express", e, api.OK)
		wantDeltas(t, "the value", []api.Delta{linear.Deltas(g, vals)}, bothIn([]api.Delta{linear.Deltas(f, vals)}))
		more, v, e := tableau.Define(x, f)
		wantErr(t, "Define", e, api.OK)
		all := extended(t, more, append(slices.Clone(vals), api.Delta{}))
		wantDeltas(t, "the value of a new one", all[v:], bothIn([]api.Delta{linear.Deltas(f, vals)}))
	})
}
