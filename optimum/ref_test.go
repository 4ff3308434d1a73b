package optimum_test

import (
	"cmp"
	"fmt"
	"maps"
	"math/big"
	"math/rand"
	"slices"
	"strconv"
	"strings"
	"testing"

	"fulcrum/api"
	"fulcrum/optimum"
	"fulcrum/simplex"
)

// world is a simplex, and what was told to it, kept by math/big: each variable as what it is of those that Var gave, and the bounds that stand on each level.
type world struct {
	s      *simplex.Simplex
	roots  []poly
	limits []ends
	left   [][]ends
}

// ends is a variable's bounds; nil is none.
type ends struct{ lower, upper *both }

// opened is one with so many variables.
func opened(t *testing.T, vars int) *world {
	t.Helper()
	w := &world{s: simplex.New()}
	for range vars {
		w.grow(t)
	}
	return w
}

func (w *world) add(root poly) {
	w.roots, w.limits = append(w.roots, root), append(w.limits, ends{})
}

func (w *world) grow(t *testing.T) {
	t.Helper()
	v, e := w.s.Var()
	wantErr(t, "Var", e, api.OK)
	w.add(poly{v: one()})
}

// root is a form by the variables that Var gave.
func (w *world) root(f api.Form) poly {
	out := poly{}
	for v, c := range polyOf(f) {
		out = out.plus(c, w.roots[v])
	}
	return out
}

func (w *world) define(t *testing.T, f api.Form) int {
	t.Helper()
	v, e := w.s.Define(f)
	wantErr(t, "Define", e, api.OK)
	if v == len(w.roots) {
		w.add(w.root(f))
	}
	return v
}

// lift and press tell a bound; one that clashes at once with the other one is none.
func (w *world) lift(v int, d api.Delta) {
	if _, e := w.s.Lift(v, d, 1000+v); e != api.OK {
		return
	}
	if b := w.limits[v].lower; b == nil || b.cmp(in(d)) < 0 {
		x := in(d)
		w.limits[v].lower = &x
	}
}

func (w *world) press(v int, d api.Delta) {
	if _, e := w.s.Press(v, d, -7); e != api.OK {
		return
	}
	if b := w.limits[v].upper; b == nil || b.cmp(in(d)) > 0 {
		x := in(d)
		w.limits[v].upper = &x
	}
}

func (w *world) push() {
	w.s.Push()
	w.left = append(w.left, slices.Clone(w.limits))
}

// back leaves levels; variables that have come since stay, without bounds.
func (w *world) back(t *testing.T, level int) {
	t.Helper()
	wantErr(t, "Back", w.s.Back(level), api.OK)
	if level == len(w.left) {
		return
	}
	was := w.left[level]
	w.limits = append(slices.Clone(was), make([]ends, len(w.roots)-len(was))...)
	w.left = w.left[:level]
}

// told reads bounds: a variable, "<", ">" or "=" (both), and a number.
func (w *world) told(t *testing.T, bounds ...string) *world {
	t.Helper()
	for _, text := range bounds {
		i := strings.IndexAny(text, "<>=")
		v, err := strconv.Atoi(text[:i])
		if err != nil {
			t.Fatal(text, err)
		}
		if text[i] != '<' {
			w.lift(v, number(text[i+1:]))
		}
		if text[i] != '>' {
			w.press(v, number(text[i+1:]))
		}
	}
	return w
}

// claim is a form that is at most a number.
type claim struct {
	form poly
	most both
}

// claims is all bounds as claims on the variables that Var gave.
func (w *world) claims() []claim {
	var out []claim
	for v, l := range w.limits {
		if l.upper != nil {
			out = append(out, claim{w.roots[v], *l.upper})
		}
		if l.lower != nil {
			minus := big.NewRat(-1, 1)
			out = append(out, claim{poly{}.plus(minus, w.roots[v]), l.lower.scaled(minus)})
		}
	}
	return out
}

// span is all numbers that a form has: none, if it is empty; nil is no end.
type span struct {
	empty           bool
	least, greatest *both
}

// goal stands for the form whose span is looked for.
const goal = -1

// span is found by Fourier's and Motzkin's way: all variables but the goal are put away, one after the other.
func (w *world) span(f api.Affine) span {
	same := w.root(f.Form)
	same.put(goal, big.NewRat(-1, 1))
	add, minus := both{ratIn(f.Const), new(big.Rat)}, big.NewRat(-1, 1)
	all := tightest(append(w.claims(), claim{same, add.scaled(minus)}, claim{poly{}.plus(minus, same), add}))
	for {
		v, ok := next(all)
		if !ok {
			return spanOf(all)
		}
		all = tightest(without(all, v))
	}
}

// next is the variable that makes the fewest claims when it is put away.
func next(all []claim) (int, bool) {
	ups, downs := map[int]int{}, map[int]int{}
	for _, c := range all {
		for v, x := range c.form {
			ups[v] += (x.Sign() + 1) / 2
			downs[v] += (1 - x.Sign()) / 2
		}
	}
	delete(ups, goal)
	if len(ups) == 0 {
		return 0, false
	}
	vars := slices.Sorted(maps.Keys(ups))
	return slices.MinFunc(vars, func(a, b int) int { return cmp.Compare(ups[a]*downs[a], ups[b]*downs[b]) }), true
}

// without is what the claims say of all else: each that holds v from above together with each that holds it from below.
func without(all []claim, v int) []claim {
	var out, above, below []claim
	for _, c := range all {
		switch x := c.form.coef(v); x.Sign() {
		case 1:
			above = append(above, c.times(new(big.Rat).Inv(x)))
		case -1:
			below = append(below, c.times(opposite(new(big.Rat).Inv(x))))
		default:
			out = append(out, c)
		}
	}
	for _, a := range above {
		for _, b := range below {
			out = append(out, claim{a.form.plus(one(), b.form), a.most.plus(one(), b.most)})
		}
	}
	return out
}

func (c claim) times(x *big.Rat) claim {
	return claim{poly{}.plus(x, c.form), c.most.scaled(x)}
}

// tightest keeps of claims on one line the tightest one.
func tightest(all []claim) []claim {
	var out []claim
	places := map[string]int{}
	for _, c := range all {
		if vars := c.form.vars(); len(vars) > 0 {
			c = c.times(new(big.Rat).Inv(new(big.Rat).Abs(c.form[vars[0]])))
		}
		line := fmt.Sprint(c.form)
		i, known := places[line]
		switch {
		case !known:
			places[line] = len(out)
			out = append(out, c)
		case c.most.cmp(out[i].most) < 0:
			out[i] = c
		}
	}
	return out
}

// spanOf is what claims on the goal alone say.
func spanOf(all []claim) span {
	var out span
	for _, c := range all {
		most := c.most
		switch c.form.coef(goal).Sign() {
		case 1:
			out.greatest = &most
		case -1:
			least := most.scaled(big.NewRat(-1, 1))
			out.least = &least
		default:
			out.empty = out.empty || most.cmp(nought()) < 0
		}
	}
	out.empty = out.empty || out.least != nil && out.greatest != nil && out.least.cmp(*out.greatest) > 0
	return out
}

// proves is the chapter's words, on the variables that Var gave.
func (w *world) proves(f api.Affine, value api.Delta, dual []api.Multiplier) bool {
	for v := range polyOf(f.Form) {
		if v < 0 || v >= len(w.roots) {
			return false
		}
	}
	g, y := poly{}, nought()
	for _, m := range dual {
		c := ratIn(m.Coef)
		if m.Why < 0 || m.Why/2 >= len(w.roots) || c.Sign() < 0 {
			return false
		}
		v, b := m.Why/2, w.limits[m.Why/2].upper
		if m.Why%2 == 0 {
			b, c = w.limits[v].lower, opposite(c)
		}
		if b == nil {
			return false
		}
		g, y = g.plus(c, w.roots[v]), y.plus(c, *b)
	}
	return g.same(w.root(f.Form)) && y.plus(one(), both{ratIn(f.Const), new(big.Rat)}).cmp(in(value)) <= 0
}

// wantWithin: these are values, one for each variable, that keep all rows and all bounds; normal.
func (w *world) wantWithin(t *testing.T, what string, values []api.Delta) {
	t.Helper()
	wantInt(t, what+": how many values", len(values), len(w.roots))
	var vals []both
	for _, d := range values {
		wantDelta(t, what+": a value", d, in(d))
		vals = append(vals, in(d))
	}
	for v, p := range w.roots {
		if p.value(vals).cmp(vals[v]) != 0 {
			t.Fatalf("%s: the value of %d is %v, but its form has %v", what, v, vals[v], p.value(vals))
		}
		if l := w.limits[v]; l.lower != nil && vals[v].cmp(*l.lower) < 0 || l.upper != nil && vals[v].cmp(*l.upper) > 0 {
			t.Fatalf("%s: the value %v of %d is not within its bounds", what, vals[v], v)
		}
	}
}

// wantOptimum: o is an optimum with a value, its values have it, and its dual proves that f times sign is nowhere above it times sign.
func (w *world) wantOptimum(t *testing.T, what string, o api.Optimum, f api.Affine, sign int64) {
	t.Helper()
	value := in(o.Value)
	kind := api.OptAttained
	if value[1].Sign() != 0 {
		kind = api.OptSupremum
	}
	wantInt(t, what+": Kind", o.Kind, kind)
	wantDelta(t, what+": Value", o.Value, value)
	w.wantWithin(t, what, o.Values)
	var vals []both
	for _, d := range o.Values {
		vals = append(vals, in(d))
	}
	if has := polyOf(f.Form).value(vals).plus(one(), both{ratIn(f.Const), new(big.Rat)}); has.cmp(value) != 0 {
		t.Fatalf("%s: the values give %v, not %v", what, has, value)
	}
	for _, m := range o.Dual {
		if !isNormal(m.Coef) {
			t.Fatalf("%s: %+v is not normal", what, m)
		}
	}
	if sign < 0 {
		f, value = turned(f), value.scaled(big.NewRat(-1, 1))
	}
	for _, less := range []struct {
		by   both
		want bool
	}{{nought(), true}, {both{one(), new(big.Rat)}, true}, {both{new(big.Rat), big.NewRat(-1, 1000)}, false}} {
		x := value.plus(one(), less.by).delta()
		wantProof(t, what+": the model", w.proves(f, x, o.Dual), less.want)
		wantProof(t, what, optimum.Proves(w.s, f, x, o.Dual), less.want)
	}
}

// wantBoth asks for the greatest and the least value of f by what proves them, and holds them against its span.
func (w *world) wantBoth(t *testing.T, f api.Affine) span {
	t.Helper()
	want := w.span(f)
	up, e := optimum.Greatest(w.s, f)
	w.wantEnd(t, "Greatest", up, e, f, want.empty, want.greatest, 1)
	down, e := optimum.Least(w.s, f)
	w.wantEnd(t, "Least", down, e, f, want.empty, want.least, -1)
	return want
}

func (w *world) wantEnd(t *testing.T, what string, o api.Optimum, e api.Errno, f api.Affine, empty bool, end *both, sign int64) {
	t.Helper()
	what = fmt.Sprintf("%s of %v and %v", what, polyOf(f.Form), ratIn(f.Const))
	if empty {
		wantErr(t, what, e, api.ErrClash)
		wantBare(t, what, o, api.OptNone)
		return
	}
	wantErr(t, what, e, api.OK)
	if end == nil {
		wantBare(t, what, o, api.OptUnbounded)
		return
	}
	if in(o.Value).cmp(*end) != 0 {
		t.Fatalf("%s: %v, not %v", what, in(o.Value), *end)
	}
	w.wantOptimum(t, what, o, f, sign)
}

// drawn is a world of few variables and forms of them, and of many bounds, on some levels, checked now and then.
func drawn(t *testing.T, r *rand.Rand, vars, forms, bounds int) *world {
	t.Helper()
	w := opened(t, 0)
	for left := vars; left > 0 || forms > 0; {
		if left > 0 && (forms == 0 || len(w.roots) == 0 || r.Intn(2) == 0) {
			w.grow(t)
			left--
			continue
		}
		if vars > 0 {
			w.define(t, someForm(r, len(w.roots)))
		} else {
			w.define(t, nil)
		}
		forms--
	}
	for range min(bounds, bounds*len(w.roots)) {
		w.someCall(t, r)
	}
	return w
}

// someCall tells a bound, or begins or leaves a level, or checks.
func (w *world) someCall(t *testing.T, r *rand.Rand) {
	t.Helper()
	v, d := r.Intn(len(w.roots)), someDelta(r)
	far := api.Delta{A: of(big.NewRat(3, 1))}
	switch r.Intn(12) {
	case 0:
		w.push()
	case 1:
		w.back(t, r.Intn(len(w.left)+1))
	case 2:
		w.s.Check()
	case 3, 4, 5:
		w.lift(v, d)
	case 6, 7, 8:
		w.press(v, d)
	case 9, 10:
		w.lift(v, in(d).plus(big.NewRat(-1, 1), in(far)).delta())
	default:
		w.press(v, in(d).plus(one(), in(far)).delta())
	}
}

// planted is a world with values within its bounds, every other one without infinitely small parts: most bounds are a bit away from these.
func planted(t *testing.T, r *rand.Rand, vars, forms int) *world {
	t.Helper()
	w := drawn(t, r, vars, forms, 0)
	vals, small := make([]both, len(w.roots)), big.NewRat(r.Int63n(2), 1)
	for v := range vals {
		d := in(someDelta(r))
		vals[v] = both{d[0], product(small, d[1])}
	}
	for v, p := range w.roots {
		value := p.value(vals)
		gap := both{big.NewRat(r.Int63n(8), 1+r.Int63n(3)), product(small, big.NewRat(r.Int63n(3)-1, 1))}
		if gap.cmp(nought()) < 0 {
			gap = nought()
		}
		side := r.Intn(8)
		if side < 5 {
			w.press(v, value.plus(one(), gap).delta())
		}
		if side > 1 && side < 7 {
			w.lift(v, value.plus(big.NewRat(-1, 1), gap).delta())
		}
	}
	return w
}
