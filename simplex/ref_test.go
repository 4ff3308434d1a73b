package simplex_test

import (
	"fmt"
	"math"
	"math/big"
	"math/rand"
	"slices"
	"testing"

	"fulcrum/api"
	"fulcrum/simplex"
)

// known is a bound as the model has it; nil is none.
type known struct {
	at  both
	why int
}

func at(d api.Delta, why int) *known { return &known{in(d), why} }

// moved is a bound that took its place, and that has not been left.
type moved struct {
	v     int
	upper bool
	level int
	to    *known
}

// model is the chapter in its own words, by math/big. It changes no rows: each variable is kept as what it is of those that Var gave, and rows are solved anew for the variables that are basic. It puts no bounds back: the one that stands is the youngest that has not been left.
type model struct {
	roots   []poly
	basic   []bool
	vals    []both
	forms   []poly // those that made a variable, and which
	made    []int
	moves   []moved
	level   int
	changes int
}

func (m *model) clone() *model {
	return &model{slices.Clone(m.roots), slices.Clone(m.basic), slices.Clone(m.vals), slices.Clone(m.forms), slices.Clone(m.made), slices.Clone(m.moves), m.level, m.changes}
}

func (m *model) add(root poly, basic bool, val both) int {
	m.roots, m.basic, m.vals = append(m.roots, root), append(m.basic, basic), append(m.vals, val)
	return len(m.roots) - 1
}

func (m *model) grow() (int, api.Errno) {
	return m.add(poly{len(m.roots): one()}, false, nought()), 0
}

func (m *model) has(v int) bool { return v >= 0 && v < len(m.roots) }

// root is a form by the variables that Var gave.
func (m *model) root(p poly) poly {
	out := poly{}
	for v, c := range p {
		out = out.plus(c, m.roots[v])
	}
	return out
}

func (m *model) define(f api.Form) (int, api.Errno) {
	p := polyOf(f)
	for v := range p {
		if !m.has(v) {
			return 0, 61
		}
	}
	if len(p) == 1 && p[p.vars()[0]].Cmp(one()) == 0 {
		return p.vars()[0], 0
	}
	if i := slices.IndexFunc(m.forms, p.same); i >= 0 {
		return m.made[i], 0
	}
	v := m.add(m.root(p), true, p.value(m.vals))
	m.forms, m.made = append(m.forms, p), append(m.made, v)
	return v, 0
}

// rows is what each basic variable is of those that are not: Gauss and Jordan's way, from the beginning each time.
func (m *model) rows() map[int]poly {
	var equations []poly
	for _, v := range m.made {
		equations = append(equations, m.roots[v].plus(big.NewRat(-1, 1), poly{v: one()}))
	}
	out := map[int]poly{}
	for v, basic := range m.basic {
		if !basic {
			continue
		}
		i := slices.IndexFunc(equations, func(p poly) bool { return p.coef(v).Sign() != 0 })
		row := poly{}.plus(opposite(new(big.Rat).Inv(equations[i].coef(v))), equations[i])
		row.put(v, one())
		equations = slices.Delete(equations, i, i+1)
		for k, p := range equations {
			equations[k] = p.without(v, row)
		}
		for w, p := range out {
			out[w] = p.without(v, row)
		}
		out[v] = row
	}
	return out
}

// settle gives the basic variables the values of their forms.
func (m *model) settle() {
	for v, p := range m.rows() {
		m.vals[v] = p.value(m.vals)
	}
}

func (m *model) bound(v int, upper bool) *known {
	for _, x := range slices.Backward(m.moves) {
		if x.v == v && x.upper == upper {
			return x.to
		}
	}
	return nil
}

func (m *model) lower(v int) *known { return m.bound(v, false) }
func (m *model) upper(v int) *known { return m.bound(v, true) }

func (m *model) low(v int) bool {
	b := m.lower(v)
	return b != nil && b.at.cmp(m.vals[v]) > 0
}

func (m *model) high(v int) bool {
	b := m.upper(v)
	return b != nil && b.at.cmp(m.vals[v]) < 0
}

// lift and press are S3 with P8.3, each in its own words.
func (m *model) lift(v int, d both, why int) ([]times, api.Errno) {
	if !m.has(v) {
		return nil, 61
	}
	if b := m.lower(v); b != nil && b.at.cmp(d) >= 0 {
		return nil, 0
	}
	if b := m.upper(v); b != nil && b.at.cmp(d) < 0 {
		return []times{{why, one()}, {b.why, one()}}, 90
	}
	m.moves = append(m.moves, moved{v, false, m.level, &known{d, why}})
	if !m.basic[v] && m.low(v) {
		m.vals[v] = d
		m.settle()
	}
	return nil, 0
}

func (m *model) press(v int, d both, why int) ([]times, api.Errno) {
	if !m.has(v) {
		return nil, 61
	}
	if b := m.upper(v); b != nil && b.at.cmp(d) <= 0 {
		return nil, 0
	}
	if b := m.lower(v); b != nil && b.at.cmp(d) > 0 {
		return []times{{why, one()}, {b.why, one()}}, 90
	}
	m.moves = append(m.moves, moved{v, true, m.level, &known{d, why}})
	if !m.basic[v] && m.high(v) {
		m.vals[v] = d
		m.settle()
	}
	return nil, 0
}

// strays are the basic variables that are low or high, rising.
func (m *model) strays() []int {
	var out []int
	for v, basic := range m.basic {
		if basic && (m.low(v) || m.high(v)) {
			out = append(out, v)
		}
	}
	return out
}

// mayRise: it is not at, or above, its upper bound. mayFall likewise.
func (m *model) mayRise(v int) bool {
	b := m.upper(v)
	return b == nil || m.vals[v].cmp(b.at) < 0
}

func (m *model) mayFall(v int) bool {
	b := m.lower(v)
	return b == nil || m.vals[v].cmp(b.at) > 0
}

// partners are the variables of b's row with which it may change places, rising; explanation what is told if there is none.
func (m *model) partners(b int) (out []int, explanation []times) {
	row := m.rows()[b]
	own := m.lower(b)
	if !m.low(b) {
		own = m.upper(b)
		row = poly{}.plus(big.NewRat(-1, 1), row)
	}
	explanation = []times{{own.why, one()}}
	for _, v := range row.vars() {
		c := row[v]
		switch {
		case c.Sign() > 0 && m.mayRise(v), c.Sign() < 0 && m.mayFall(v):
			out = append(out, v)
		case c.Sign() > 0:
			explanation = append(explanation, times{m.upper(v).why, c})
		case c.Sign() < 0:
			explanation = append(explanation, times{m.lower(v).why, opposite(c)})
		}
	}
	return out, explanation
}

// change lets b and o change places.
func (m *model) change(b, o int) {
	to := m.lower(b)
	if !m.low(b) {
		to = m.upper(b)
	}
	m.vals[b], m.basic[b], m.basic[o] = to.at, false, true
	m.settle()
	m.changes++
}

func (m *model) check() ([]times, api.Errno) {
	for l := m.strays(); len(l) > 0; l = m.strays() {
		o, explanation := m.partners(l[0])
		if len(o) == 0 {
			return explanation, 90
		}
		m.change(l[0], o[0])
	}
	return nil, 0
}

func (m *model) back(level int) api.Errno {
	if level < 0 || level > m.level {
		return 80
	}
	m.moves = slices.DeleteFunc(m.moves, func(x moved) bool { return x.level > level })
	m.level = level
	return 0
}

// numbers is S7: nil, if some variable is low or high.
func (m *model) numbers() []*big.Rat {
	e := one()
	less := func(lo, hi both) bool {
		if lo.cmp(hi) > 0 {
			return false
		}
		if lo[1].Cmp(hi[1]) > 0 {
			a, b := new(big.Rat).Sub(hi[0], lo[0]), new(big.Rat).Sub(lo[1], hi[1])
			if shut := a.Quo(a, b); shut.Cmp(e) < 0 {
				e = shut
			}
		}
		return true
	}
	for v, d := range m.vals {
		if b := m.lower(v); b != nil && !less(b.at, d) {
			return nil
		}
		if b := m.upper(v); b != nil && !less(d, b.at) {
			return nil
		}
	}
	out := []*big.Rat{}
	for _, d := range m.vals {
		out = append(out, d.at(e))
	}
	return out
}

// wantLike asks for all that a simplex tells.
func wantLike(t *testing.T, what string, s *simplex.Simplex, m *model) {
	t.Helper()
	wantInt(t, what+": Size", s.Size(), len(m.roots))
	wantInt(t, what+": Level", s.Level(), m.level)
	wantInt(t, what+": Pivots", s.Pivots(), m.changes)
	wantRows(t, what+": Tableau", s.Tableau(), len(m.roots), m.rows())
	for v := range m.roots {
		d, e := s.Value(v)
		wantErr(t, what+": Value", e, api.OK)
		wantDelta(t, fmt.Sprintf("%s: Value of %d", what, v), d, m.vals[v])
		wantLimit(t, fmt.Sprintf("%s: of %d", what, v), s, v, m.lower(v), m.upper(v))
	}
	wantNumbers(t, what, s, m)
}

func wantNumbers(t *testing.T, what string, s *simplex.Simplex, m *model) {
	t.Helper()
	l, e := s.Model()
	want := m.numbers()
	if want == nil {
		wantErr(t, what+": Model", e, api.ErrOpen)
		wantInt(t, what+": numbers beside an error", len(l), 0)
		return
	}
	wantErr(t, what+": Model", e, api.OK)
	wantInt(t, what+": Model's numbers", len(l), len(want))
	for v, n := range want {
		if ratIn(l[v]).Cmp(n) != 0 || !isNormal(l[v]) {
			t.Fatalf("%s: Model of %d: %+v, not %v", what, v, l[v], n)
		}
	}
}

// step does one call, drawn by r, to a simplex and to its model, and holds the answers against each other. why is a new one each time.
func step(t *testing.T, r *rand.Rand, s *simplex.Simplex, m *model, why int) {
	t.Helper()
	vars := len(m.roots)
	v, d := anyVar(r, vars), someDelta(r)
	switch r.Intn(16) {
	case 0:
		if vars < 4 || vars < 9 && r.Intn(5) == 0 {
			got, e := s.Var()
			want, code := m.grow()
			wantErr(t, "Var", e, code)
			wantInt(t, "Var", got, want)
		}
	case 1, 2:
		f := someForm(r, vars)
		if len(m.forms) > 4 {
			f = rewritten(r, m.forms[r.Intn(5)])
		}
		got, e := s.Define(f)
		want, code := m.define(f)
		wantErr(t, "Define", e, code)
		wantInt(t, "Define", got, want)
	case 3, 4, 5, 6:
		d = away(r, d, -5)
		l, e := s.Lift(v, d, why)
		want, code := m.lift(v, in(d), why)
		wantErr(t, fmt.Sprintf("Lift(%d, %v)", v, in(d)), e, code)
		wantTimes(t, fmt.Sprintf("Lift(%d, %v)", v, in(d)), l, want)
	case 7, 8, 9, 10:
		d = away(r, d, 5)
		l, e := s.Press(v, d, why)
		want, code := m.press(v, in(d), why)
		wantErr(t, fmt.Sprintf("Press(%d, %v)", v, in(d)), e, code)
		wantTimes(t, fmt.Sprintf("Press(%d, %v)", v, in(d)), l, want)
	case 11:
		s.Push()
		m.level++
	case 12:
		level := []int{m.level - 1, m.level - 2, m.level - 1, m.level, m.level + 1, 0, -1, math.MaxInt, math.MinInt}[r.Intn(9)]
		wantErr(t, "Back", s.Back(level), m.back(level))
	default:
		l, e := s.Check()
		want, code := m.check()
		wantErr(t, "Check", e, code)
		wantTimes(t, "Check", l, want)
		if e != api.OK && r.Intn(3) > 0 { // so that it goes on from there
			level := r.Intn(m.level + 1)
			wantErr(t, "Back", s.Back(level), m.back(level))
		}
	}
}

// away is mostly a number further off, so that not all bounds clash.
func away(r *rand.Rand, d api.Delta, by int64) api.Delta {
	if r.Intn(5) > 0 {
		d.A = of(sum(ratIn(d.A), big.NewRat(by, 1)))
	}
	return d
}

// rewritten is a form in another order, each coefficient in two parts, with parts that fall away.
func rewritten(r *rand.Rand, p poly) api.Form {
	out := api.Form{{Var: 99, Coef: num("2/3")}, {Var: -7}, {Var: 99, Coef: otherwise(num("-2/3"))}}
	for _, v := range slices.Backward(p.vars()) {
		c := p[v]
		half := product(c, big.NewRat(r.Int63n(9)-4, 7))
		out = append(out, api.Mono{Var: v, Coef: of(half)}, api.Mono{Var: v, Coef: otherwise(of(sum(c, opposite(half))))})
	}
	return out
}

// busy is a simplex behind so many calls, and its model.
func busy(t *testing.T, r *rand.Rand, calls int) (*simplex.Simplex, *model) {
	t.Helper()
	s, m := simplex.New(), &model{}
	for range r.Intn(5) {
		s.Var()
		m.grow()
		f := someForm(r, len(m.roots))
		s.Define(f)
		m.define(f)
		s.Push()
		m.level++
	}
	for why := range calls {
		step(t, r, s, m, why)
	}
	return s, m
}

// wantExplanation: each multiplier is above 0, and that of a bound that there is; their sum, each variable put as what it is of those that Var gave, is a number above 0. No two bounds have one why.
func wantExplanation(t *testing.T, m *model, l []times) {
	t.Helper()
	total, constant := poly{}, nought()
	for _, x := range l {
		v, upper := m.whose(x.why)
		if v < 0 || x.coef.Sign() <= 0 {
			t.Fatalf("%v: no such bound, or not above 0", x)
		}
		sign := x.coef
		if !upper {
			sign = opposite(x.coef)
		}
		total = total.plus(sign, m.roots[v])
		constant = constant.plus(opposite(sign), m.bound(v, upper).at)
	}
	if len(total) > 0 || constant.cmp(nought()) <= 0 {
		t.Fatalf("%v: the sum is %v and %v", l, total, constant)
	}
}

// whose is which bound has that why; -1, if none.
func (m *model) whose(why int) (int, bool) {
	for v := range m.roots {
		for _, upper := range []bool{false, true} {
			if b := m.bound(v, upper); b != nil && b.why == why {
				return v, upper
			}
		}
	}
	return -1, false
}

// told is multipliers as the model has them.
func told(l []api.Multiplier) []times {
	var out []times
	for _, x := range l {
		out = append(out, times{x.Why, ratIn(x.Coef)})
	}
	return out
}

// wantAllKept: all values are within all bounds, and each variable's is what it is of those that Var gave.
func wantAllKept(t *testing.T, s *simplex.Simplex, m *model) {
	t.Helper()
	var vals []both
	for v := range m.roots {
		d, e := s.Value(v)
		wantErr(t, "Value", e, api.OK)
		vals = append(vals, in(d))
	}
	for v, p := range m.roots {
		if p.value(vals).cmp(vals[v]) != 0 {
			t.Fatalf("the value of %d is %v, not %v", v, vals[v], p.value(vals))
		}
		if b := m.lower(v); b != nil && vals[v].cmp(b.at) < 0 {
			t.Fatalf("the value of %d is %v, below %v", v, vals[v], b.at)
		}
		if b := m.upper(v); b != nil && vals[v].cmp(b.at) > 0 {
			t.Fatalf("the value of %d is %v, above %v", v, vals[v], b.at)
		}
	}
}
