package tableau_test

import (
	"maps"
	"math"
	"math/big"
	"math/rand"
	"slices"
	"testing"

	"fulcrum/api"
	"fulcrum/linear"
	"fulcrum/tableau"
	"fulcrum/whole"
)

const full = 0xffffffff

// poly is a form that is worked out by math/big alone: the coefficients that are not 0, by their variables.
type poly map[int]*big.Rat

// natIn, ratIn and in are what a Nat, a Rat and a Form are read as (DOC.md, 'How a number is read').
func natIn(n api.Nat) *big.Int {
	out := new(big.Int)
	for i := len(n) - 1; i >= 0; i-- {
		out.Lsh(out, 32).Or(out, big.NewInt(int64(n[i])))
	}
	return out
}

func ratIn(r api.Rat) *big.Rat {
	num, den := natIn(r.Num.Abs), natIn(r.Den)
	if den.Sign() == 0 {
		return new(big.Rat)
	}
	if r.Num.Neg {
		num.Neg(num)
	}
	return new(big.Rat).SetFrac(num, den)
}

func in(f api.Form) poly {
	out := poly{}
	for _, part := range f {
		out.put(part.Var, ratIn(part.Coef))
	}
	return out
}

// put adds c times v to p.
func (p poly) put(v int, c *big.Rat) {
	p[v] = sum(p.at(v), c)
	if p[v].Sign() == 0 {
		delete(p, v)
	}
}

func (p poly) at(v int) *big.Rat {
	if c, ok := p[v]; ok {
		return c
	}
	return new(big.Rat)
}

func (p poly) vars() []int { return slices.Sorted(maps.Keys(p)) }

// plus is p and c times q.
func (p poly) plus(c *big.Rat, q poly) poly {
	out := maps.Clone(p)
	for v, d := range q {
		out.put(v, product(c, d))
	}
	return out
}

func (p poly) same(q poly) bool { return len(p.plus(bigNum("-1"), q)) == 0 }

func sum(a, b *big.Rat) *big.Rat     { return new(big.Rat).Add(a, b) }
func product(a, b *big.Rat) *big.Rat { return new(big.Rat).Mul(a, b) }
func one() *big.Rat                  { return big.NewRat(1, 1) }

// system is a tableau that may be, worked out by math/big: what each basic variable is.
type system map[int]poly

func (s system) basics() []int { return slices.Sorted(maps.Keys(s)) }

// systemOf is a tableau's rows, and whether it may be, by the words of the chapter's section 'Types'.
func systemOf(t api.Tableau) (system, bool) {
	out := system{}
	for _, row := range t.Rows {
		if _, twice := out[row.Basic]; twice {
			return nil, false
		}
		out[row.Basic] = in(row.Form)
	}
	if t.Vars < 0 || t.Vars > 65536 {
		return nil, false
	}
	for v, p := range out {
		for w := range p {
			if _, basic := out[w]; basic || w < 0 || w >= t.Vars {
				return nil, false
			}
		}
		if v < 0 || v >= t.Vars {
			return nil, false
		}
	}
	return out, true
}

// express is p with the basic variables' polys in their places.
func (s system) express(p poly) poly {
	out := poly{}
	for v, c := range p {
		if row, basic := s[v]; basic {
			out = out.plus(c, row)
		} else {
			out.put(v, c)
		}
	}
	return out
}

// equations are polys that are 0 just where all rows are kept.
func (s system) equations() []poly {
	var out []poly
	for _, v := range s.basics() {
		p := maps.Clone(s[v])
		p.put(v, bigNum("-1"))
		out = append(out, p)
	}
	return out
}

// eliminated is the equations solved for the variables of order, each for the first one that it can be; as no variable that one is solved for stands in another one, the same values keep two lists just if they are the same here. (Gauss and Jordan's way, in which nothing is pivoted.)
func eliminated(equations []poly, order []int) system {
	out := system{}
	for _, v := range order {
		at := slices.IndexFunc(equations, func(p poly) bool { return p.at(v).Sign() != 0 })
		if at < 0 {
			continue
		}
		head := equations[at]
		row := poly{}.plus(new(big.Rat).Neg(new(big.Rat).Inv(head.at(v))), head)
		row.put(v, one())
		equations = slices.Delete(slices.Clone(equations), at, at+1)
		for i, p := range equations {
			equations[i] = without(p, v, row)
		}
		for w, p := range out {
			out[w] = without(p, v, row)
		}
		out[v] = row
	}
	return out
}

// without is p with row in the place of v.
func without(p poly, v int, row poly) poly {
	c := p.at(v)
	out := p.plus(c, row)
	out.put(v, new(big.Rat).Neg(c))
	return out
}

func (s system) same(o system) bool {
	return maps.EqualFunc(s, o, poly.same)
}

// keptBySame: just the same values keep both.
func (s system) keptBySame(o system, vars int) bool {
	return eliminated(s.equations(), below(vars)).same(eliminated(o.equations(), below(vars)))
}

func below(n int) []int {
	var out []int
	for v := range n {
		out = append(out, v)
	}
	return out
}

// limbs, of and num make normal numbers without the program's help.
func limbs(n *big.Int) api.Nat {
	var out api.Nat
	for _, word := range n.Bits() {
		out = append(out, uint32(word), uint32(uint64(word)>>32))
	}
	for len(out) > 0 && out[len(out)-1] == 0 {
		out = out[:len(out)-1]
	}
	return out
}

func of(r *big.Rat) api.Rat {
	return api.Rat{Num: api.Int{Neg: r.Sign() < 0, Abs: limbs(r.Num())}, Den: limbs(r.Denom())}
}

func bigNum(s string) *big.Rat {
	r, ok := new(big.Rat).SetString(s)
	if !ok {
		panic(s)
	}
	return r
}

func num(s string) api.Rat { return of(bigNum(s)) }

// form is coefficients' texts and variables by turns, as they stand.
func form(l ...any) api.Form {
	var out api.Form
	for i := 0; i < len(l); i += 2 {
		out = append(out, api.Mono{Var: l[i+1].(int), Coef: num(l[i].(string))})
	}
	return out
}

func row(basic int, l ...any) api.Row { return api.Row{Basic: basic, Form: form(l...)} }

func rows(vars int, l ...api.Row) api.Tableau { return api.Tableau{Vars: vars, Rows: l} }

func isNormal(r api.Rat) bool {
	want := of(ratIn(r))
	return r.Num.Neg == want.Num.Neg && slices.Equal(r.Num.Abs, want.Num.Abs) && slices.Equal(r.Den, want.Den)
}

// wantForm asks for that form, and that it is normal: by rising variables, each once, no coefficient 0, all of them normal.
func wantForm(t *testing.T, what string, got api.Form, want poly) {
	t.Helper()
	if len(got) != len(want) {
		t.Fatalf("%s: %v, not %v", what, in(got), want)
	}
	for i, v := range want.vars() {
		if got[i].Var != v || !isNormal(got[i].Coef) || ratIn(got[i].Coef).Cmp(want[v]) != 0 {
			t.Fatalf("%s: %v, not %v", what, in(got), want)
		}
	}
}

// wantTableau asks for these rows, and that they are normal: by rising basic variables, their forms normal.
func wantTableau(t *testing.T, what string, got api.Tableau, vars int, want system) {
	t.Helper()
	if got.Vars != vars || len(got.Rows) != len(want) {
		t.Fatalf("%s: %s, not %d variables and %v", what, text(got), vars, want)
	}
	for i, v := range want.basics() {
		if got.Rows[i].Basic != v {
			t.Fatalf("%s: %s, not %v", what, text(got), want)
		}
		wantForm(t, what, got.Rows[i].Form, want[v])
	}
}

// wantSame: two answers are one tableau, which is normal.
func wantSame(t *testing.T, what string, a, b api.Tableau) {
	t.Helper()
	right, ok := systemOf(b)
	if !ok {
		t.Fatalf("%s: %s may not be", what, text(b))
	}
	wantTableau(t, what, a, b.Vars, right)
	wantTableau(t, what, b, b.Vars, right)
}

func wantNoTableau(t *testing.T, what string, got api.Tableau) {
	t.Helper()
	if got.Vars != 0 || len(got.Rows) != 0 {
		t.Fatalf("%s: %s beside an error", what, text(got))
	}
}

func wantErr(t *testing.T, what string, got, want api.Errno) {
	t.Helper()
	if got != want {
		t.Fatalf("%s: error %d, not %d", what, got, want)
	}
}

func wantInts(t *testing.T, what string, got []int, want ...int) {
	t.Helper()
	if !slices.Equal(got, want) {
		t.Fatalf("%s: %v, not %v", what, got, want)
	}
}

// text is a tableau as one can read it.
func text(t api.Tableau) string {
	out := new(big.Int).SetInt64(int64(t.Vars)).String() + " variables"
	for _, r := range t.Rows {
		out += "; " + new(big.Int).SetInt64(int64(r.Basic)).String() + " = " + linear.Text(r.Form)
	}
	return out
}

// begun is the first example's tableau: 2 = x0 + x1, 3 = x0 - x1.
func begun() api.Tableau {
	return rows(4, row(2, "1", 0, "1", 1), row(3, "1", 0, "-1", 1))
}

// zeros is all manner of ways to write 0 as a Rat: without a Den, with Neg set, with noughts at a list's end.
func zeros() []api.Rat {
	return []api.Rat{
		{}, {Num: whole.Of(5)}, {Num: whole.Of(-5), Den: api.Nat{0, 0}}, {Den: api.Nat{1}}, {Num: api.Int{Neg: true}, Den: api.Nat{3}},
		{Num: api.Int{Neg: true, Abs: api.Nat{0, 0}}, Den: api.Nat{4, 0}}, {Num: api.Int{Neg: true, Abs: api.Nat{full, full}}},
	}
}

// otherwise is the same number, not in lowest terms and with a nought at the end of its lists.
func otherwise(r api.Rat) api.Rat {
	three := whole.Of(3)
	return api.Rat{
		Num: api.Int{Neg: r.Num.Neg, Abs: append(whole.Mul(api.Int{Abs: r.Num.Abs}, three).Abs, 0)},
		Den: append(whole.Mul(api.Int{Abs: r.Den}, three).Abs, 0),
	}
}

func opposite(r api.Rat) api.Rat {
	return api.Rat{Num: api.Int{Neg: !r.Num.Neg, Abs: r.Num.Abs}, Den: r.Den}
}

func smallRat(r *rand.Rand) api.Rat {
	return of(big.NewRat(r.Int63n(9)-4, 1+r.Int63n(3)))
}

// someRat is a small number, a long one, or 0; some are not in lowest terms.
func someRat(r *rand.Rand) api.Rat {
	switch r.Intn(8) {
	case 0:
		return zeros()[r.Intn(len(zeros()))]
	case 1:
		return otherwise(smallRat(r))
	case 2:
		long := new(big.Int).Rand(r, new(big.Int).Lsh(big.NewInt(1), uint(1+r.Intn(200))))
		return api.Rat{Num: api.Int{Neg: r.Intn(2) == 0, Abs: limbs(long)}, Den: api.Nat{uint32(r.Intn(7)), uint32(r.Intn(3))}}
	}
	return smallRat(r)
}

// formOver has parts of these variables in any order, some in several parts.
func formOver(r *rand.Rand, vars []int) api.Form {
	var out api.Form
	for range min(r.Intn(6), len(vars)*6) {
		out = append(out, api.Mono{Var: vars[r.Intn(len(vars))], Coef: someRat(r)})
	}
	return out
}

// blurred is the same form with parts that cancel one another and parts that are 0, of any variables at all.
func blurred(r *rand.Rand, f api.Form) api.Form {
	out := slices.Clone(f)
	for range r.Intn(3) {
		c := someRat(r)
		v := []int{-1, 0, 1, 2, 3, 4, 5, 6, 7, 65536, math.MinInt, math.MaxInt}[r.Intn(12)]
		out = append(out, api.Mono{Var: v, Coef: c}, api.Mono{Var: v, Coef: opposite(otherwise(c))})
		out = append(out, api.Mono{Var: v + 1, Coef: zeros()[r.Intn(len(zeros()))]})
	}
	r.Shuffle(len(out), func(i, j int) { out[i], out[j] = out[j], out[i] })
	return out
}

// someTableau may be, and mostly is not normal.
func someTableau(r *rand.Rand) api.Tableau {
	vars := r.Intn(8)
	order := r.Perm(vars)
	basics := r.Intn(vars + 1)
	out := api.Tableau{Vars: vars}
	for _, b := range order[:basics] {
		out.Rows = append(out.Rows, api.Row{Basic: b, Form: blurred(r, formOver(r, order[basics:]))})
	}
	return out
}

// spoilt has one thing otherwise, so that mostly it may not be.
func spoilt(r *rand.Rand, t api.Tableau) api.Tableau {
	t.Rows = slices.Clone(t.Rows)
	if len(t.Rows) == 0 {
		t.Vars = []int{-1, math.MinInt, 65537, math.MaxInt}[r.Intn(4)]
		return t
	}
	i := r.Intn(len(t.Rows))
	odd := []int{-1, t.Vars, math.MaxInt, math.MinInt, t.Rows[0].Basic, t.Rows[i].Basic}[r.Intn(6)]
	switch r.Intn(4) {
	case 0:
		t.Vars = []int{-1, 65537, r.Intn(8)}[r.Intn(3)]
	case 1:
		t.Rows[i].Basic = odd
	case 2:
		t.Rows[i].Form = append(slices.Clone(t.Rows[i].Form), api.Mono{Var: odd, Coef: someRat(r)})
	case 3:
		t.Rows = append(t.Rows, api.Row{Basic: t.Rows[i].Basic})
	}
	return t
}

// eachTableau hands on tableaus that may be and such as may not, with what they are by math/big; of those that may not be nil.
func eachTableau(seed int64, do func(r *rand.Rand, t api.Tableau, s system)) {
	r := rand.New(rand.NewSource(seed))
	for _, t := range append(mayBe(), mayNotBe()...) {
		s, _ := systemOf(t)
		do(r, t, s)
	}
	for i := range 1500 {
		t := someTableau(r)
		if i%4 == 0 {
			t = spoilt(r, t)
		}
		s, _ := systemOf(t)
		do(r, t, s)
	}
}

// mayBe are the edges of what may be.
func mayBe() []api.Tableau {
	out := []api.Tableau{
		{}, {Rows: []api.Row{}}, {Vars: 1}, {Vars: 65536}, begun(),
		rows(1, row(0)), rows(2, row(1), row(0)), rows(2, row(0, "0", 0, "0", 1, "0", 2)), rows(3, row(0, "0", 7, "1", 2), row(1, "0", 0, "0", 1)),
		rows(3, row(2, "1", 1, "0", 2, "1", 1)), rows(3, row(2, "1", 1, "1", 2, "1", 0, "-1/2", 2, "-1/2", 2)), rows(3, row(0, "1", 5, "2", -1, "-1", 5, "1", 1, "-2", -1)),
		rows(4, row(3, "1", 1, "1", 0), row(2, "1", 0, "-1", 3, "2", 1, "1", 3)), rows(2, row(1, "1", 2, "-1", 2)),
		rows(65536, row(65535, "1", 65534), row(0, "2", 65534, "1", 1)), rows(2, row(1, "1", math.MinInt, "1", math.MaxInt, "-1", math.MaxInt, "-1", math.MinInt)),
		{Vars: 2, Rows: []api.Row{{Basic: 1, Form: api.Form{{Var: 0, Coef: api.Rat{Num: whole.Of(6), Den: api.Nat{4, 0}}}}}}},
	}
	for _, zero := range zeros() {
		out = append(out, rows(3, api.Row{Basic: 1, Form: api.Form{{Var: 1, Coef: zero}, {Var: 3, Coef: zero}, {Var: -1, Coef: zero}, {Var: 0, Coef: num("2")}}}))
	}
	return out
}

// mayNotBe has each fault that the chapter names.
func mayNotBe() []api.Tableau {
	out := []api.Tableau{
		{Vars: -1}, {Vars: math.MinInt}, {Vars: 65537}, {Vars: math.MaxInt}, rows(65537, row(0, "1", 1)), rows(-1, row(-1)),
		rows(0, row(0)), rows(1, row(1)), rows(1, row(-1)), rows(2, row(math.MaxInt)), rows(2, row(math.MinInt)), rows(65536, row(65536)),
		rows(2, row(0), row(0)), rows(3, row(0, "1", 2), row(1), row(0, "1", 2)), rows(2, row(1, "1", 0), row(1, "1", 0)),
		rows(2, row(0, "1", 0)), rows(2, row(1, "1", 0), row(0, "1", 1)), rows(3, row(1, "1", 2), row(0, "1", 1)), rows(3, row(0, "1", 1), row(1, "1", 2)), rows(3, row(0, "1", 2, "1/9", 0)),
		rows(2, row(0, "1", 2)), rows(2, row(0, "1", -1)), rows(2, row(0, "1", math.MaxInt)), rows(2, row(0, "1", math.MinInt)), rows(65536, row(0, "1", 65536)),
		rows(2, row(0, "1", 2, "-1/2", 2)), rows(3, row(1, "0", 9, "1", 0), row(2, "1", 9)),
	}
	return out
}

// someDeltas is so many values, some of them not normal.
func someDeltas(r *rand.Rand, many int) []api.Delta {
	var out []api.Delta
	for range many {
		out = append(out, api.Delta{A: someRat(r), B: someRat(r)})
	}
	return out
}

// anyVar is mostly one of so many variables.
func anyVar(r *rand.Rand, vars int) int {
	if vars < 1 || vars > 10 || r.Intn(5) == 0 {
		return []int{-1, vars, math.MaxInt, math.MinInt, 0}[r.Intn(5)]
	}
	return r.Intn(vars)
}

// anyForm is mostly one of so many variables, basic ones too.
func anyForm(r *rand.Rand, vars int) api.Form {
	f := formOver(r, below(min(max(vars, 0), 9)))
	if r.Intn(4) == 0 {
		f = append(f, api.Mono{Var: anyVar(r, vars), Coef: someRat(r)})
	}
	return blurred(r, f)
}

// eachPivot hands on tableaus that may be with all pairs of variables that can change places.
func eachPivot(seed int64, do func(r *rand.Rand, t api.Tableau, basic, other int)) {
	eachTableau(seed, func(r *rand.Rand, t api.Tableau, s system) {
		for _, b := range s.basics() {
			for _, o := range s[b].vars() {
				do(r, t, b, o)
			}
		}
	})
}

func pivoted(t *testing.T, x api.Tableau, basic, other int) api.Tableau {
	t.Helper()
	y, e := tableau.Pivot(x, basic, other)
	wantErr(t, "Pivot of "+text(x), e, api.OK)
	return y
}
