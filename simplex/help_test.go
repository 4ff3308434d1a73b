package simplex_test

import (
	"fmt"
	"maps"
	"math"
	"math/big"
	"math/rand"
	"slices"
	"testing"

	"fulcrum/api"
	"fulcrum/linear"
	"fulcrum/simplex"
	"fulcrum/whole"
)

const full = 0xffffffff

// natIn, ratIn and in are what a Nat, a Rat and a Delta are read as (DOC.md, 'How a number is read').
func natIn(n api.Nat) *big.Int {
	out := new(big.Int)
	for i := len(n) - 1; i >= 0; i-- {
		out.Lsh(out, 32).Or(out, big.NewInt(int64(n[i])))
	}
	return out
}

func ratIn(r api.Rat) *big.Rat {
	num, den := natIn(r.Num.Abs), natIn(r.Den)
	if den.Sign() == 0 {
		return new(big.Rat)
	}
	if r.Num.Neg {
		num.Neg(num)
	}
	return new(big.Rat).SetFrac(num, den)
}

func in(d api.Delta) both { return both{ratIn(d.A), ratIn(d.B)} }

func sum(a, b *big.Rat) *big.Rat     { return new(big.Rat).Add(a, b) }
func product(a, b *big.Rat) *big.Rat { return new(big.Rat).Mul(a, b) }
func opposite(a *big.Rat) *big.Rat   { return new(big.Rat).Neg(a) }
func one() *big.Rat                  { return big.NewRat(1, 1) }

// both is a Delta's two numbers, worked with by math/big alone.
type both [2]*big.Rat

func nought() both { return both{new(big.Rat), new(big.Rat)} }

func (a both) cmp(b both) int {
	if c := a[0].Cmp(b[0]); c != 0 {
		return c
	}
	return a[1].Cmp(b[1])
}

// plus is a and c times b.
func (a both) plus(c *big.Rat, b both) both {
	return both{sum(a[0], product(c, b[0])), sum(a[1], product(c, b[1]))}
}

// at is the number that it is where the amount is e.
func (a both) at(e *big.Rat) *big.Rat { return sum(a[0], product(a[1], e)) }

func (a both) String() string { return a[0].RatString() + " + " + a[1].RatString() + " d" }

// poly is a form that is worked out by math/big alone: the coefficients that are not 0, by their variables.
type poly map[int]*big.Rat

func polyOf(f api.Form) poly {
	out := poly{}
	for _, part := range f {
		out.put(part.Var, ratIn(part.Coef))
	}
	return out
}

// put adds c times v to p.
func (p poly) put(v int, c *big.Rat) {
	p[v] = sum(p.coef(v), c)
	if p[v].Sign() == 0 {
		delete(p, v)
	}
}

func (p poly) coef(v int) *big.Rat {
	if c, ok := p[v]; ok {
		return c
	}
	return new(big.Rat)
}

func (p poly) vars() []int { return slices.Sorted(maps.Keys(p)) }

// plus is p and c times q.
func (p poly) plus(c *big.Rat, q poly) poly {
	out := maps.Clone(p)
	for v, d := range q {
		out.put(v, product(c, d))
	}
	return out
}

func (p poly) same(q poly) bool { return len(p.plus(big.NewRat(-1, 1), q)) == 0 }

func (p poly) value(vals []both) both {
	out := nought()
	for v, c := range p {
		out = out.plus(c, vals[v])
	}
	return out
}

// without is p with row in the place of v.
func (p poly) without(v int, row poly) poly {
	c := p.coef(v)
	out := p.plus(c, row)
	out.put(v, opposite(c))
	return out
}

// limbs, of and num make normal numbers without the program's help.
func limbs(n *big.Int) api.Nat {
	var out api.Nat
	for _, word := range n.Bits() {
		out = append(out, uint32(word), uint32(uint64(word)>>32))
	}
	for len(out) > 0 && out[len(out)-1] == 0 {
		out = out[:len(out)-1]
	}
	return out
}

func of(r *big.Rat) api.Rat {
	return api.Rat{Num: api.Int{Neg: r.Sign() < 0, Abs: limbs(r.Num())}, Den: limbs(r.Denom())}
}

func bigNum(s string) *big.Rat {
	r, ok := new(big.Rat).SetString(s)
	if !ok {
		panic(s)
	}
	return r
}

func num(s string) api.Rat { return of(bigNum(s)) }

func pair(a, b string) api.Delta { return api.Delta{A: num(a), B: num(b)} }

// plain is a number without delta.
func plain(s string) api.Delta { return pair(s, "0") }

// form is coefficients' texts and variables by turns, as they stand.
func form(l ...any) api.Form {
	var out api.Form
	for i := 0; i < len(l); i += 2 {
		out = append(out, api.Mono{Var: l[i+1].(int), Coef: num(l[i].(string))})
	}
	return out
}

// zeros is all manner of ways to write 0 as a Rat: without a Den, with Neg set, with noughts at a list's end.
func zeros() []api.Rat {
	return []api.Rat{
		{}, {Num: whole.Of(5)}, {Num: whole.Of(-5), Den: api.Nat{0, 0}}, {Den: api.Nat{1}}, {Num: api.Int{Neg: true}, Den: api.Nat{3}},
		{Num: api.Int{Neg: true, Abs: api.Nat{0, 0}}, Den: api.Nat{4, 0}}, {Num: api.Int{Neg: true, Abs: api.Nat{full, full}}},
	}
}

// otherwise is the same number, not in lowest terms and with a nought at the end of its lists.
func otherwise(r api.Rat) api.Rat {
	three := whole.Of(3)
	return api.Rat{
		Num: api.Int{Neg: r.Num.Neg, Abs: append(whole.Mul(api.Int{Abs: r.Num.Abs}, three).Abs, 0)},
		Den: append(whole.Mul(api.Int{Abs: r.Den}, three).Abs, 0),
	}
}

// written is the ways to write one number: normal; not in lowest terms; its noughts in all manners.
func written(d api.Delta) []api.Delta {
	out := []api.Delta{d, {A: otherwise(d.A), B: otherwise(d.B)}}
	for _, zero := range zeros() {
		if ratIn(d.B).Sign() == 0 {
			out = append(out, api.Delta{A: otherwise(d.A), B: zero})
		}
		if ratIn(d.A).Sign() == 0 {
			out = append(out, api.Delta{A: zero, B: otherwise(d.B)})
		}
	}
	return out
}

func isNormal(r api.Rat) bool {
	want := of(ratIn(r))
	return r.Num.Neg == want.Num.Neg && slices.Equal(r.Num.Abs, want.Num.Abs) && slices.Equal(r.Den, want.Den)
}

// someCoef is one of few numbers; now and then one that is not in lowest terms, 0, or a longer one.
func someCoef(r *rand.Rand) api.Rat {
	switch r.Intn(16) {
	case 0:
		return zeros()[r.Intn(len(zeros()))]
	case 1:
		return of(big.NewRat(r.Int63n(1<<40)-1<<39, 1+r.Int63n(1<<34)))
	case 2:
		return otherwise(of(big.NewRat(r.Int63n(5)-2, 1)))
	}
	return of(big.NewRat(r.Int63n(7)-3, 1+r.Int63n(6)/5))
}

func someDelta(r *rand.Rand) api.Delta {
	d := api.Delta{A: of(big.NewRat(r.Int63n(13)-6, 1+r.Int63n(2))), B: of(big.NewRat(r.Int63n(5)/2-1, 1))}
	switch r.Intn(6) {
	case 0:
		return api.Delta{A: otherwise(d.A), B: otherwise(d.B)}
	case 1:
		return api.Delta{A: d.A, B: zeros()[r.Intn(len(zeros()))]}
	case 2:
		return api.Delta{A: someCoef(r), B: someCoef(r)}
	}
	return d
}

// someForm is over so many variables: in any order, some in several parts; now and then with a variable that there is not, that may fall away again.
func someForm(r *rand.Rand, vars int) api.Form {
	var out api.Form
	for range min(r.Intn(5), 5*vars) {
		out = append(out, api.Mono{Var: r.Intn(vars), Coef: someCoef(r)})
	}
	if r.Intn(6) == 0 {
		v, c := []int{-1, vars, 0, math.MaxInt, math.MinInt}[r.Intn(5)], someCoef(r)
		out = append(out, api.Mono{Var: v, Coef: c})
		if r.Intn(4) > 0 {
			out = append(out, api.Mono{Var: v, Coef: of(opposite(ratIn(c)))})
		}
	}
	r.Shuffle(len(out), func(i, j int) { out[i], out[j] = out[j], out[i] })
	return out
}

// far is variables that are none of so many.
func far(vars int) []int {
	return []int{-1, -2, vars, vars + 1, 65536, math.MaxInt32, math.MaxInt, math.MinInt}
}

func anyVar(r *rand.Rand, vars int) int {
	if vars == 0 || r.Intn(20) == 0 {
		return far(vars)[r.Intn(8)]
	}
	return r.Intn(vars)
}

func wantErr(t *testing.T, what string, got, want api.Errno) {
	t.Helper()
	if got != want {
		t.Fatalf("%s: error %d, not %d", what, got, want)
	}
}

func wantInt(t *testing.T, what string, got, want int) {
	t.Helper()
	if got != want {
		t.Fatalf("%s: %d, not %d", what, got, want)
	}
}

// wantDelta asks for that number, and that it is normal.
func wantDelta(t *testing.T, what string, got api.Delta, want both) {
	t.Helper()
	if in(got).cmp(want) != 0 || !isNormal(got.A) || !isNormal(got.B) {
		t.Fatalf("%s: %v (%+v), not %v", what, in(got), got, want)
	}
}

// isBare: it has neither a limb nor a sign.
func isBare(d api.Delta) bool {
	return len(d.A.Num.Abs)+len(d.A.Den)+len(d.B.Num.Abs)+len(d.B.Den) == 0 && !d.A.Num.Neg && !d.B.Num.Neg
}

// wantBound asks for that bound, and for zero values where there is none.
func wantBound(t *testing.T, what string, got api.Bound, want *known) {
	t.Helper()
	if want == nil {
		if got.Has || got.Why != 0 || !isBare(got.At) {
			t.Fatalf("%s: %+v, not zero", what, got)
		}
		return
	}
	if !got.Has || got.Why != want.why {
		t.Fatalf("%s: %+v, not %v by %d", what, got, want.at, want.why)
	}
	wantDelta(t, what, got.At, want.at)
}

// wantForm asks for that form, and that it is normal: by rising variables, each once, no coefficient 0, all of them normal.
func wantForm(t *testing.T, what string, got api.Form, want poly) {
	t.Helper()
	if len(got) != len(want) {
		t.Fatalf("%s: %v, not %v", what, polyOf(got), want)
	}
	for i, v := range want.vars() {
		if got[i].Var != v || !isNormal(got[i].Coef) || ratIn(got[i].Coef).Cmp(want[v]) != 0 {
			t.Fatalf("%s: %v, not %v", what, polyOf(got), want)
		}
	}
}

// wantRows asks for these rows: by rising basic variables, their forms normal.
func wantRows(t *testing.T, what string, got api.Tableau, vars int, want map[int]poly) {
	t.Helper()
	wantInt(t, what+": Vars", got.Vars, vars)
	if len(got.Rows) != len(want) {
		t.Fatalf("%s: %d rows, not %d", what, len(got.Rows), len(want))
	}
	for i, v := range slices.Sorted(maps.Keys(want)) {
		wantInt(t, what+": Basic", got.Rows[i].Basic, v)
		wantForm(t, fmt.Sprintf("%s: the row of %d", what, v), got.Rows[i].Form, want[v])
	}
}

// times is a multiplier as the model has it.
type times struct {
	why  int
	coef *big.Rat
}

func (x times) String() string { return fmt.Sprintf("{%d, %s}", x.why, x.coef.RatString()) }

// by is multipliers by their whys and the coefficients' texts, by turns.
func by(l ...any) []times {
	var out []times
	for i := 0; i < len(l); i += 2 {
		out = append(out, times{l[i].(int), bigNum(l[i+1].(string))})
	}
	return out
}

func wantTimes(t *testing.T, what string, got []api.Multiplier, want []times) {
	t.Helper()
	if len(got) != len(want) {
		t.Fatalf("%s: %v, not %v", what, told(got), want)
	}
	for i, m := range got {
		if m.Why != want[i].why || ratIn(m.Coef).Cmp(want[i].coef) != 0 || !isNormal(m.Coef) {
			t.Fatalf("%s: %v, not %v", what, told(got), want)
		}
	}
}

// wantClash asks for ErrClash and these multipliers.
func wantClash(t *testing.T, what string, got []api.Multiplier, e api.Errno, want []times) {
	t.Helper()
	wantErr(t, what, e, api.ErrClash)
	wantTimes(t, what, got, want)
}

// wantFine asks for OK, and no multipliers beside it.
func wantFine(t *testing.T, what string, got []api.Multiplier, e api.Errno) {
	t.Helper()
	wantErr(t, what, e, api.OK)
	wantTimes(t, what, got, nil)
}

// started is one with so many variables.
func started(t *testing.T, vars int) *simplex.Simplex {
	t.Helper()
	s := simplex.New()
	for want := range vars {
		v, e := s.Var()
		wantErr(t, "Var", e, api.OK)
		wantInt(t, "Var", v, want)
	}
	return s
}

func define(t *testing.T, s *simplex.Simplex, f api.Form, want int) {
	t.Helper()
	v, e := s.Define(f)
	wantErr(t, "Define of "+linear.Text(f), e, api.OK)
	wantInt(t, "Define of "+linear.Text(f), v, want)
}

// lift, press and check ask for OK.
func lift(t *testing.T, s *simplex.Simplex, v int, d api.Delta, why int) {
	t.Helper()
	l, e := s.Lift(v, d, why)
	wantFine(t, fmt.Sprintf("Lift of %d to %v", v, in(d)), l, e)
}

func press(t *testing.T, s *simplex.Simplex, v int, d api.Delta, why int) {
	t.Helper()
	l, e := s.Press(v, d, why)
	wantFine(t, fmt.Sprintf("Press of %d to %v", v, in(d)), l, e)
}

func check(t *testing.T, s *simplex.Simplex) {
	t.Helper()
	l, e := s.Check()
	wantFine(t, "Check", l, e)
}

func wantValues(t *testing.T, what string, s *simplex.Simplex, want ...api.Delta) {
	t.Helper()
	wantInt(t, what+": Size", s.Size(), len(want))
	for v, d := range want {
		got, e := s.Value(v)
		wantErr(t, what+": Value", e, api.OK)
		wantDelta(t, fmt.Sprintf("%s: Value of %d", what, v), got, in(d))
	}
}

// wholes is numbers without delta.
func wholes(l ...int64) []api.Delta {
	var out []api.Delta
	for _, n := range l {
		out = append(out, api.Delta{A: of(big.NewRat(n, 1)), B: num("0")})
	}
	return out
}

// wantTexts asks for rows by their basic variables and the texts of their forms.
func wantTexts(t *testing.T, s *simplex.Simplex, want map[int]string) {
	t.Helper()
	rows := map[int]poly{}
	for v, text := range want {
		f, e := linear.Parse(text)
		wantErr(t, text, e, api.OK)
		rows[v] = polyOf(f)
	}
	wantRows(t, "Tableau", s.Tableau(), s.Size(), rows)
}

func wantLimit(t *testing.T, what string, s *simplex.Simplex, v int, lower, upper *known) {
	t.Helper()
	l, e := s.Limit(v)
	wantErr(t, what+": Limit", e, api.OK)
	wantBound(t, what+": the lower bound", l.Lower, lower)
	wantBound(t, what+": the upper bound", l.Upper, upper)
}
