package implied_test

import (
	"fmt"
	"math/big"
	"slices"

	"fulcrum/api"
)

// The chapter's own words, worked out by math/big alone, each bound by itself.

// bound is an implied bound as the model has it.
type bound struct {
	v     int
	upper bool
	at    both
	by    []times
}

func (b bound) String() string {
	side := "at least"
	if b.upper {
		side = "at most"
	}
	return fmt.Sprintf("v%d is %s %v by %v", b.v, side, b.at, b.by)
}

func (b bound) same(c bound) bool {
	return b.v == c.v && b.upper == c.upper && b.at.cmp(c.at) == 0 &&
		slices.EqualFunc(b.by, c.by, func(x, y times) bool { return x.why == y.why && x.coef.Cmp(y.coef) == 0 })
}

func told(l []api.Implied) []bound {
	var out []bound
	for _, i := range l {
		b := bound{v: i.Var, upper: i.Upper, at: in(i.At)}
		for _, m := range i.By {
			b.by = append(b.by, times{m.Why, ratIn(m.Coef)})
		}
		out = append(out, b)
	}
	return out
}

func atLeast(v int, a, b string, l []times) bound { return bound{v, false, pair(a, b), l} }
func atMost(v int, a, b string, l []times) bound  { return bound{v, true, pair(a, b), l} }

// boundOf is a variable's bound on one side; nil, if it has none.
func boundOf(limits []api.Limit, v int, upper bool) *api.Bound {
	if v < 0 || v >= len(limits) {
		return nil
	}
	b := limits[v].Lower
	if upper {
		b = limits[v].Upper
	}
	if !b.Has {
		return nil
	}
	return &b
}

func equationOf(r api.Row) poly {
	out := polyOf(r.Form)
	out.put(r.Basic, big.NewRat(-1, 1))
	return out
}

// implies is v's bound on one side, as I1 says it; nil, if none is implied.
func implies(equation poly, limits []api.Limit, v int, upper bool) *bound {
	out := bound{v: v, upper: upper, at: nought()}
	for _, u := range equation.vars() {
		if u == v {
			continue
		}
		b := opposite(quotient(equation[u], equation[v]))
		end := boundOf(limits, u, upper == (b.Sign() > 0))
		if end == nil {
			return nil
		}
		out.at = out.at.plus(b, in(end.At))
		out.by = append(out.by, times{end.Why, new(big.Rat).Abs(b)})
	}
	return &out
}

func rowsBounds(r api.Row, limits []api.Limit) []bound {
	var out []bound
	equation := equationOf(r)
	for _, v := range equation.vars() {
		for _, upper := range []bool{false, true} {
			if b := implies(equation, limits, v, upper); b != nil {
				out = append(out, *b)
			}
		}
	}
	return out
}

func tighterBounds(r api.Row, limits []api.Limit) []bound {
	return slices.DeleteFunc(rowsBounds(r, limits), func(b bound) bool {
		has := boundOf(limits, b.v, b.upper)
		return has != nil && !isTighter(b.at, in(has.At), b.upper)
	})
}

func isTighter(a, b both, upper bool) bool {
	if upper {
		return a.cmp(b) < 0
	}
	return a.cmp(b) > 0
}

// follows is I4's own words.
func follows(i api.Implied, r api.Row, limits []api.Limit) bool {
	asked := told([]api.Implied{i})[0]
	return slices.ContainsFunc(rowsBounds(r, limits), func(b bound) bool {
		loose := asked
		loose.at = b.at
		return b.same(loose) && !isTighter(asked.at, b.at, b.upper)
	})
}

// world is a number for each variable (0, where none stands), and a truth for each constant of Bool.
type world struct {
	numbers map[int]*big.Rat
	truths  map[string]int
}

func valueIn(p poly, w world) *big.Rat {
	out := new(big.Rat)
	for v, c := range p {
		if n, ok := w.numbers[v]; ok {
			out = sum(out, product(c, n))
		}
	}
	return out
}

// says tells whether an atom is true in a world.
func says(a api.Atom, w world) bool {
	if a.Name != "" {
		return w.truths[a.Name] == 1
	}
	order := valueIn(polyOf(a.Form), w).Cmp(ratIn(a.Bound))
	return order < 0 || order == 0 && !a.Strict
}

// isTrue tells whether a clause of two atoms is true in a world.
func isTrue(c api.Clause, l []api.Atom, w world) bool {
	for _, lit := range c {
		if says(l[max(lit, -lit)-1], w) == (lit > 0) {
			return true
		}
	}
	return false
}

// around is numbers below, at, between and above two.
func around(a, b *big.Rat) []*big.Rat {
	if a.Cmp(b) > 0 {
		a, b = b, a
	}
	return []*big.Rat{less(a, one()), a, quotient(sum(a, b), big.NewRat(2, 1)), b, sum(b, one())}
}

// wherever is all worlds that two atoms could tell apart: each form below, at and above its bound, as far as there are such values, and all truths.
func wherever(a, b api.Atom) []world {
	var out []world
	for _, numbers := range numbersFor(a, b) {
		for _, truth := range truthsFor(a.Name) {
			for _, other := range truthsFor(b.Name) {
				w := world{numbers, map[string]int{b.Name: other}}
				w.truths[a.Name] = truth // one name has one truth
				out = append(out, w)
			}
		}
	}
	return out
}

func truthsFor(name string) []int {
	if name == "" {
		return []int{0}
	}
	return []int{0, 1}
}

func numbersFor(a, b api.Atom) []map[int]*big.Rat {
	f, g := spoken(a), spoken(b)
	atA, atB := ratIn(a.Bound), ratIn(b.Bound)
	var out []map[int]*big.Rat
	if u, w, det := independent(f, g); det != nil {
		for _, x := range around(atA, atA) {
			for _, y := range around(atB, atB) {
				first := quotient(less(product(x, g.coef(w)), product(y, f.coef(w))), det)
				second := quotient(less(product(f.coef(u), y), product(g.coef(u), x)), det)
				out = append(out, map[int]*big.Rat{u: first, w: second})
			}
		}
		return out
	}
	if len(f) == 0 {
		f, atA = g, atB
	}
	if len(f) == 0 {
		return []map[int]*big.Rat{nil}
	}
	v := f.vars()[0]
	ends := [2]*big.Rat{quotient(atA, f[v]), quotient(atA, f[v])}
	if c, ok := g[v]; ok {
		ends[1] = quotient(atB, c)
	}
	for _, x := range around(ends[0], ends[1]) {
		out = append(out, map[int]*big.Rat{v: x})
	}
	return out
}

// spoken is the form that an atom speaks of.
func spoken(a api.Atom) poly {
	if a.Name != "" {
		return nil
	}
	return polyOf(a.Form)
}

// independent is two variables by which both forms can have any two values, with their determinant; nil, if there are none.
func independent(f, g poly) (int, int, *big.Rat) {
	for _, u := range f.vars() {
		for _, w := range g.vars() {
			det := less(product(f.coef(u), g.coef(w)), product(f.coef(w), g.coef(u)))
			if det.Sign() != 0 {
				return u, w, det
			}
		}
	}
	return 0, 0, nil
}

// clausesOf is I5's own words: of the four clauses those that no world makes false.
func clausesOf(a, b api.Atom) []api.Clause {
	var out []api.Clause
	worlds := wherever(a, b)
	for _, c := range []api.Clause{{1, 2}, {1, -2}, {-1, 2}, {-1, -2}} {
		if !slices.ContainsFunc(worlds, func(w world) bool { return !isTrue(c, []api.Atom{a, b}, w) }) {
			out = append(out, c)
		}
	}
	return out
}

func lemmasOf(l []api.Atom) []api.Clause {
	var out []api.Clause
	for k := range l {
		for m := k + 1; m < len(l); m++ {
			for _, c := range clausesOf(l[k], l[m]) {
				out = append(out, api.Clause{c[0] * (k + 1), c[1] / 2 * (m + 1)})
			}
		}
	}
	return out
}
