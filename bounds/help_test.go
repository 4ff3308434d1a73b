package bounds_test

import (
	"fmt"
	"math"
	"math/big"
	"math/rand"
	"slices"
	"testing"

	"fulcrum/api"
	"fulcrum/bounds"
	"fulcrum/whole"
)

const full = 0xffffffff

// natIn and ratIn are what a Nat and a Rat are read as (DOC.md, 'How a number is read').
func natIn(n api.Nat) *big.Int {
	out := new(big.Int)
	for i := len(n) - 1; i >= 0; i-- {
		out.Lsh(out, 32).Or(out, big.NewInt(int64(n[i])))
	}
	return out
}

func ratIn(r api.Rat) *big.Rat {
	num, den := natIn(r.Num.Abs), natIn(r.Den)
	if den.Sign() == 0 {
		return new(big.Rat)
	}
	if r.Num.Neg {
		num.Neg(num)
	}
	return new(big.Rat).SetFrac(num, den)
}

// both is a Delta's two numbers, worked with by math/big alone.
type both [2]*big.Rat

func in(d api.Delta) both { return both{ratIn(d.A), ratIn(d.B)} }

func (a both) cmp(b both) int {
	if c := a[0].Cmp(b[0]); c != 0 {
		return c
	}
	return a[1].Cmp(b[1])
}

func (a both) String() string { return a[0].RatString() + " + " + a[1].RatString() + " d" }

// limbs, of, num and pair make normal numbers without the program's help.
func limbs(n *big.Int) api.Nat {
	var out api.Nat
	for _, word := range n.Bits() {
		out = append(out, uint32(word), uint32(uint64(word)>>32))
	}
	for len(out) > 0 && out[len(out)-1] == 0 {
		out = out[:len(out)-1]
	}
	return out
}

func of(r *big.Rat) api.Rat {
	return api.Rat{Num: api.Int{Neg: r.Sign() < 0, Abs: limbs(r.Num())}, Den: limbs(r.Denom())}
}

func num(s string) api.Rat {
	r, ok := new(big.Rat).SetString(s)
	if !ok {
		panic(s)
	}
	return of(r)
}

func pair(a, b string) api.Delta { return api.Delta{A: num(a), B: num(b)} }

// plain is a number without delta.
func plain(s string) api.Delta { return pair(s, "0") }

// at is a bound.
func at(d api.Delta, why int) api.Bound { return api.Bound{Has: true, At: d, Why: why} }

func isNormal(r api.Rat) bool {
	want := of(ratIn(r))
	return r.Num.Neg == want.Num.Neg && slices.Equal(r.Num.Abs, want.Num.Abs) && slices.Equal(r.Den, want.Den)
}

// zeros is all manner of ways to write 0 as a Rat: without a Den, with Neg set, with noughts at a list's end.
func zeros() []api.Rat {
	return []api.Rat{
		{}, {Num: whole.Of(5)}, {Num: whole.Of(-5), Den: api.Nat{0, 0}}, {Den: api.Nat{1}}, {Num: api.Int{Neg: true}, Den: api.Nat{3}},
		{Num: api.Int{Neg: true, Abs: api.Nat{0, 0}}, Den: api.Nat{4, 0}}, {Num: api.Int{Neg: true, Abs: api.Nat{full, full}}},
	}
}

// otherwise is the same number, not in lowest terms and with a nought at the end of its lists.
func otherwise(r api.Rat) api.Rat {
	three := whole.Of(3)
	return api.Rat{
		Num: api.Int{Neg: r.Num.Neg, Abs: append(whole.Mul(api.Int{Abs: r.Num.Abs}, three).Abs, 0)},
		Den: append(whole.Mul(api.Int{Abs: r.Den}, three).Abs, 0),
	}
}

// written is the ways to write one number: normal; not in lowest terms; its noughts in all manners.
func written(d api.Delta) []api.Delta {
	out := []api.Delta{d, {A: otherwise(d.A), B: otherwise(d.B)}}
	for _, zero := range zeros() {
		if ratIn(d.B).Sign() == 0 {
			out = append(out, api.Delta{A: otherwise(d.A), B: zero})
		}
		if ratIn(d.A).Sign() == 0 {
			out = append(out, api.Delta{A: zero, B: otherwise(d.B)})
		}
	}
	return out
}

// someRat is one of few numbers, so that two are often alike; now and then a long one.
func someRat(r *rand.Rand) api.Rat {
	switch r.Intn(12) {
	case 0:
		return zeros()[r.Intn(len(zeros()))]
	case 1:
		long := new(big.Int).Rand(r, new(big.Int).Lsh(big.NewInt(1), uint(1+r.Intn(100))))
		return api.Rat{Num: api.Int{Neg: r.Intn(2) == 0, Abs: limbs(long)}, Den: api.Nat{uint32(r.Intn(7)), full}}
	}
	return of(big.NewRat(r.Int63n(9)-4, 1+r.Int63n(2)))
}

func someDelta(r *rand.Rand) api.Delta {
	d := api.Delta{A: someRat(r), B: of(big.NewRat(r.Int63n(3)-1, 1))}
	if r.Intn(3) == 0 {
		d = api.Delta{A: otherwise(d.A), B: otherwise(d.B)}
	}
	if r.Intn(8) == 0 {
		d.B = someRat(r)
	}
	return d
}

func someDeltas(r *rand.Rand, many int) []api.Delta {
	var out []api.Delta
	for range many {
		out = append(out, someDelta(r))
	}
	return out
}

// someWhy has edges of int too.
func someWhy(r *rand.Rand) int {
	return []int{0, -1, 1, math.MinInt, math.MaxInt, r.Intn(100)}[r.Intn(6)]
}

// known is a bound as the model has it; nil is none.
type known struct {
	at  both
	why int
}

func knownOf(b api.Bound) *known {
	if !b.Has {
		return nil
	}
	return &known{in(b.At), b.Why}
}

// moved is a bound that was asserted and took its place, and that has not been left.
type moved struct {
	v     int
	upper bool
	level int
	to    *known
}

// model is a store by math/big that puts nothing back: the bound that stands is the youngest of those that were moved and not left, or the one that the store began with.
type model struct {
	first [][2]*known
	moves []moved
	level int
}

func newModel(vars int) *model { return &model{first: make([][2]*known, vars)} }

func place(upper bool) int {
	if upper {
		return 1
	}
	return 0
}

// bound is what stands of v behind the first so many moves.
func (m *model) bound(v int, upper bool, moves int) *known {
	for i := moves - 1; i >= 0; i-- {
		if m.moves[i].v == v && m.moves[i].upper == upper {
			return m.moves[i].to
		}
	}
	return m.first[v][place(upper)]
}

func (m *model) lower(v int) *known { return m.bound(v, false, len(m.moves)) }
func (m *model) upper(v int) *known { return m.bound(v, true, len(m.moves)) }

func (m *model) has(v int) bool { return v >= 0 && v < len(m.first) }

func (m *model) move(v int, upper bool, to both, why int) (api.Verdict, api.Errno) {
	m.moves = append(m.moves, moved{v, upper, m.level, &known{to, why}})
	return api.Verdict{Kind: 1}, 0
}

// lift and press are P8.3, each in its own words.
func (m *model) lift(v int, d both, why int) (api.Verdict, api.Errno) {
	if !m.has(v) {
		return api.Verdict{}, 61
	}
	lo, hi := m.lower(v), m.upper(v)
	if lo != nil && lo.at.cmp(d) >= 0 {
		return api.Verdict{Kind: 0}, 0
	}
	if hi != nil && hi.at.cmp(d) < 0 {
		return api.Verdict{Kind: 2, Other: hi.why}, 0
	}
	return m.move(v, false, d, why)
}

func (m *model) press(v int, d both, why int) (api.Verdict, api.Errno) {
	if !m.has(v) {
		return api.Verdict{}, 61
	}
	lo, hi := m.lower(v), m.upper(v)
	if hi != nil && hi.at.cmp(d) <= 0 {
		return api.Verdict{Kind: 0}, 0
	}
	if lo != nil && lo.at.cmp(d) > 0 {
		return api.Verdict{Kind: 2, Other: lo.why}, 0
	}
	return m.move(v, true, d, why)
}

func (m *model) back(level int) api.Errno {
	if level < 0 || level > m.level {
		return 80
	}
	m.moves = slices.DeleteFunc(m.moves, func(x moved) bool { return x.level > level })
	m.level = level
	return 0
}

func (m *model) grow() (int, api.Errno) {
	m.first = append(m.first, [2]*known{})
	return len(m.first) - 1, 0
}

func (m *model) inside(v int, d both) bool {
	lo, hi := m.lower(v), m.upper(v)
	return (lo == nil || d.cmp(lo.at) >= 0) && (hi == nil || d.cmp(hi.at) <= 0)
}

func (m *model) fixed(v int) bool {
	lo, hi := m.lower(v), m.upper(v)
	return lo != nil && hi != nil && lo.at.cmp(hi.at) == 0
}

func (m *model) fits(vals []api.Delta) int {
	for v := range m.first {
		d := both{new(big.Rat), new(big.Rat)}
		if v < len(vals) {
			d = in(vals[v])
		}
		if !m.inside(v, d) {
			return v
		}
	}
	return -1
}

// clone is a model that goes its own way.
func (m *model) clone() *model {
	return &model{slices.Clone(m.first), slices.Clone(m.moves), m.level}
}

func wantErr(t *testing.T, what string, got, want api.Errno) {
	t.Helper()
	if got != want {
		t.Fatalf("%s: error %d, not %d", what, got, want)
	}
}

func wantInt(t *testing.T, what string, got, want int) {
	t.Helper()
	if got != want {
		t.Fatalf("%s: %d, not %d", what, got, want)
	}
}

func wantBool(t *testing.T, what string, got bool, e api.Errno, want bool) {
	t.Helper()
	wantErr(t, what, e, api.OK)
	if got != want {
		t.Fatalf("%s: %v, not %v", what, got, want)
	}
}

// wantVerdict asks for a kind, a why, and no error.
func wantVerdict(t *testing.T, what string, got api.Verdict, e api.Errno, kind, other int) {
	t.Helper()
	wantErr(t, what, e, api.OK)
	if got.Kind != kind || got.Other != other {
		t.Fatalf("%s: %+v, not kind %d, other %d", what, got, kind, other)
	}
}

// wantBound asks for that number, that it is normal, and for zero values where there is none.
func wantBound(t *testing.T, what string, got api.Bound, want *known) {
	t.Helper()
	if want == nil {
		if got.Has || got.Why != 0 || !isBare(got.At) {
			t.Fatalf("%s: %+v, not zero", what, got)
		}
		return
	}
	if !got.Has || got.Why != want.why || in(got.At).cmp(want.at) != 0 || !isNormal(got.At.A) || !isNormal(got.At.B) {
		t.Fatalf("%s: %+v, not %v by %d", what, got, want.at, want.why)
	}
}

// isBare: it has neither a limb nor a sign.
func isBare(d api.Delta) bool {
	return len(d.A.Num.Abs)+len(d.A.Den)+len(d.B.Num.Abs)+len(d.B.Den) == 0 && !d.A.Num.Neg && !d.B.Num.Neg
}

func wantLimit(t *testing.T, what string, got api.Limit, lower, upper *known) {
	t.Helper()
	wantBound(t, what+": the lower bound", got.Lower, lower)
	wantBound(t, what+": the upper bound", got.Upper, upper)
}

// wantStore asks for all that a store tells of itself.
func wantStore(t *testing.T, what string, s *bounds.Store, m *model) {
	t.Helper()
	wantInt(t, what+": Vars", s.Vars(), len(m.first))
	wantInt(t, what+": Level", s.Level(), m.level)
	for v := range m.first {
		l, e := s.Limit(v)
		wantErr(t, what+": Limit", e, api.OK)
		wantLimit(t, fmt.Sprintf("%s: Limit of %d", what, v), l, m.lower(v), m.upper(v))
		fixed, e := s.Fixed(v)
		wantBool(t, what+": Fixed", fixed, e, m.fixed(v))
	}
	wantState(t, what, s.State(), m)
}

func wantState(t *testing.T, what string, got api.Bounds, m *model) {
	t.Helper()
	wantInt(t, what+": the state's Level", got.Level, m.level)
	wantInt(t, what+": the state's Limits", len(got.Limits), len(m.first))
	wantInt(t, what+": the state's Trail", len(got.Trail), len(m.moves))
	for v, l := range got.Limits {
		wantLimit(t, fmt.Sprintf("%s: the state's Limit of %d", what, v), l, m.lower(v), m.upper(v))
	}
	for i, c := range got.Trail {
		x := m.moves[i]
		if c.Var != x.v || c.Upper != x.upper || c.Level != x.level {
			t.Fatalf("%s: Change %d: %+v, not %+v", what, i, c, x)
		}
		wantBound(t, fmt.Sprintf("%s: Was of %d", what, i), c.Was, m.bound(x.v, x.upper, i))
	}
}

func newStore(t *testing.T, vars int) *bounds.Store {
	t.Helper()
	s, e := bounds.New(vars)
	wantErr(t, "New", e, api.OK)
	return s
}

func loaded(t *testing.T, state api.Bounds) *bounds.Store {
	t.Helper()
	s, e := bounds.Load(state)
	wantErr(t, fmt.Sprintf("Load of %+v", state), e, api.OK)
	return s
}

// lift and press ask for BoundMoved.
func lift(t *testing.T, s *bounds.Store, v int, d api.Delta, why int) {
	t.Helper()
	got, e := s.Lift(v, d, why)
	wantVerdict(t, "Lift", got, e, api.BoundMoved, 0)
}

func press(t *testing.T, s *bounds.Store, v int, d api.Delta, why int) {
	t.Helper()
	got, e := s.Press(v, d, why)
	wantVerdict(t, "Press", got, e, api.BoundMoved, 0)
}

// far is variables that are none of so many.
func far(vars int) []int {
	return []int{-1, -2, vars, vars + 1, 65536, math.MaxInt32, math.MaxInt, math.MinInt}
}

// anyVar is mostly one of so many variables.
func anyVar(r *rand.Rand, vars int) int {
	if vars == 0 || r.Intn(10) == 0 {
		return []int{-1, vars, math.MaxInt, math.MinInt}[r.Intn(4)]
	}
	return r.Intn(vars)
}

// step does one call, drawn by r, to the store and to its model, and holds the answers against each other.
func step(t *testing.T, r *rand.Rand, s *bounds.Store, m *model) {
	t.Helper()
	v, d, why := anyVar(r, len(m.first)), someDelta(r), someWhy(r)
	switch r.Intn(10) {
	case 0, 1, 2:
		got, e := s.Lift(v, d, why)
		want, code := m.lift(v, in(d), why)
		wantErr(t, fmt.Sprintf("Lift(%d, %v)", v, in(d)), e, code)
		wantVerdict(t, fmt.Sprintf("Lift(%d, %v)", v, in(d)), got, 0, want.Kind, want.Other)
	case 3, 4, 5:
		got, e := s.Press(v, d, why)
		want, code := m.press(v, in(d), why)
		wantErr(t, fmt.Sprintf("Press(%d, %v)", v, in(d)), e, code)
		wantVerdict(t, fmt.Sprintf("Press(%d, %v)", v, in(d)), got, 0, want.Kind, want.Other)
	case 6, 7:
		s.Push()
		m.level++
	case 8:
		level := []int{m.level - 1, m.level - 2, m.level - 1, m.level, m.level + 1, 0, -1, math.MaxInt, math.MinInt}[r.Intn(9)]
		wantErr(t, "Back", s.Back(level), m.back(level))
	case 9:
		if len(m.first) < 5 && r.Intn(4) == 0 {
			got, e := s.Grow()
			want, code := m.grow()
			wantErr(t, "Grow", e, code)
			wantInt(t, "Grow", got, want)
		}
		vals := someDeltas(r, r.Intn(7))
		wantInt(t, "Fits", s.Fits(vals), m.fits(vals))
	}
	if !m.has(v) {
		return
	}
	inside, e := s.Inside(v, d)
	wantBool(t, fmt.Sprintf("Inside(%d, %v)", v, in(d)), inside, e, m.inside(v, in(d)))
}
