package simplex_test

import (
	"fmt"
	"math/big"
	"math/rand"
	"slices"
	"testing"

	"fulcrum/api"
	"fulcrum/simplex"
)

// claim is a bound that is asserted.
type claim struct {
	v     int
	upper bool
	at    api.Delta
}

func least(v int, s string) claim { return claim{v, false, plain(s)} }
func most(v int, s string) claim  { return claim{v, true, plain(s)} }

// asserted is a simplex with two variables and the form as the variable 2, and with these claims; the why of each is 10 and its place.
func asserted(t *testing.T, f api.Form, claims ...claim) *simplex.Simplex {
	t.Helper()
	s := started(t, 2)
	define(t, s, f, 2)
	for i, c := range claims {
		if c.upper {
			press(t, s, c.v, c.at, 10+i)
		} else {
			lift(t, s, c.v, c.at, 10+i)
		}
	}
	return s
}

func TestS4NothingToDo(t *testing.T) {
	sum := form("1", 0, "1", 1)
	for _, s := range []*simplex.Simplex{
		simplex.New(), started(t, 3), first(t), asserted(t, sum, least(0, "1")), asserted(t, nil, least(2, "0"), most(2, "0")),
		asserted(t, sum, least(2, "0")), asserted(t, sum, most(2, "0")), asserted(t, sum, least(2, "0"), most(2, "0")), // just at its bounds
		asserted(t, sum, least(0, "2"), most(2, "2")), asserted(t, sum, most(1, "-2"), least(2, "-2")), asserted(t, sum, least(2, "-1"), most(2, "1")),
		asserted(t, sum, claim{0, false, pair("1", "1")}, claim{2, true, pair("1", "1")}),
	} {
		rows, values := s.Tableau(), valuesOf(t, s)
		check(t, s)
		wantInt(t, "Pivots", s.Pivots(), 0)
		wantValues(t, "Check", s, values...)
		wantRows(t, "Check", s.Tableau(), rows.Vars, polysOf(rows))
	}
}

func valuesOf(t *testing.T, s *simplex.Simplex) []api.Delta {
	t.Helper()
	var out []api.Delta
	for v := range s.Size() {
		d, e := s.Value(v)
		wantErr(t, "Value", e, api.OK)
		out = append(out, d)
	}
	return out
}

func polysOf(x api.Tableau) map[int]poly {
	out := map[int]poly{}
	for _, row := range x.Rows {
		out[row.Basic] = polyOf(row.Form)
	}
	return out
}

func TestS4OnePivot(t *testing.T) {
	for _, c := range []struct {
		form   api.Form
		claims []claim
		basic  int
		row    string
		values []api.Delta
	}{
		{form("1", 0, "1", 1), []claim{least(2, "3")}, 0, "-1*x1+1*x2", wholes(3, 0, 3)},
		{form("-1", 0, "1", 1), []claim{least(2, "3")}, 0, "1*x1+-1*x2", wholes(-3, 0, 3)},
		{form("1", 0, "1", 1), []claim{most(2, "-3")}, 0, "-1*x1+1*x2", wholes(-3, 0, -3)},
		{form("-1", 0, "1", 1), []claim{most(2, "-3")}, 0, "1*x1+-1*x2", wholes(3, 0, -3)},
		// the first one is at the bound that stops it: the second one is taken
		{form("1", 0, "1", 1), []claim{most(0, "0"), least(2, "3")}, 1, "-1*x0+1*x2", wholes(0, 3, 3)},
		{form("-1", 0, "1", 1), []claim{least(0, "0"), least(2, "3")}, 1, "1*x0+1*x2", wholes(0, 3, 3)},
		{form("1", 0, "1", 1), []claim{least(0, "0"), most(2, "-3")}, 1, "-1*x0+1*x2", wholes(0, -3, -3)},
		{form("-1", 0, "1", 1), []claim{most(0, "0"), most(2, "-3")}, 1, "1*x0+1*x2", wholes(0, -3, -3)},
		{form("2", 0, "-1/3", 1), []claim{most(0, "0"), least(2, "1")}, 1, "6*x0+-3*x2", wholes(0, -3, 1)},
		// it is at the other bound, or only near this one
		{form("1", 0, "1", 1), []claim{least(0, "0"), least(2, "3")}, 0, "-1*x1+1*x2", wholes(3, 0, 3)},
		{form("1", 0, "1", 1), []claim{most(0, "0"), most(2, "-3")}, 0, "-1*x1+1*x2", wholes(-3, 0, -3)},
		{form("2", 0, "1", 1), []claim{most(0, "2"), least(2, "3")}, 0, "-1/2*x1+1/2*x2", []api.Delta{plain("3/2"), plain("0"), plain("3")}},
		{form("1", 0, "1", 1), []claim{{0, true, pair("0", "1")}, {2, false, pair("0", "1/2")}}, 0, "-1*x1+1*x2", []api.Delta{pair("0", "1/2"), plain("0"), pair("0", "1/2")}},
		{form("1", 0, "1", 1), []claim{{0, false, pair("0", "-1")}, {2, true, pair("0", "-1/2")}}, 0, "-1*x1+1*x2", []api.Delta{pair("0", "-1/2"), plain("0"), pair("0", "-1/2")}},
	} {
		s := asserted(t, c.form, c.claims...)
		check(t, s)
		wantInt(t, "Pivots", s.Pivots(), 1)
		wantTexts(t, s, map[int]string{c.basic: c.row})
		wantValues(t, "Check", s, c.values...)
	}
}

// A variable that changes places may go beyond its own bound, and is then the next one.
func TestS4TwoPivots(t *testing.T) {
	s := asserted(t, form("1", 0, "1", 1), most(0, "1"), least(2, "3"))
	check(t, s)
	wantInt(t, "Pivots", s.Pivots(), 2)
	wantTexts(t, s, map[int]string{1: "-1*x0+1*x2"})
	wantValues(t, "Check", s, wholes(1, 2, 3)...)
	check(t, s)
	wantInt(t, "Pivots", s.Pivots(), 2)
}

// Of several basic variables the least one is taken, be it low or high.
func TestS4TheLeastBasicVariable(t *testing.T) {
	s := first(t)
	lift(t, s, 3, plain("2"), 1)
	lift(t, s, 2, plain("2"), 2)
	check(t, s) // with 2 and 0 all is done; with 3 and 0 too, but with other rows
	wantTexts(t, s, map[int]string{0: "-1*x1+1*x2", 3: "-2*x1+1*x2"})
	s = first(t)
	lift(t, s, 3, plain("2"), 1)
	press(t, s, 2, plain("-2"), 2)
	press(t, s, 0, plain("0"), 3)
	lift(t, s, 0, plain("0"), 4)
	check(t, s) // 2 and 1
	wantTexts(t, s, map[int]string{1: "-1*x0+1*x2", 3: "2*x0+-1*x2"})
	wantValues(t, "Check", s, wholes(0, -2, -2, 2)...)
	wantInt(t, "Pivots", s.Pivots(), 1)
}

// Of a row the least variable that will do is taken, also where that is not the first one.
func TestS4TheLeastOther(t *testing.T) {
	for stuck := range 4 {
		s := started(t, 4)
		define(t, s, form("1", 3, "1", 2, "-1", 1, "1", 0), 4)
		for v := range stuck {
			if v == 1 {
				lift(t, s, v, plain("0"), v)
			} else {
				press(t, s, v, plain("0"), v)
			}
		}
		lift(t, s, 4, plain("5"), 9)
		check(t, s)
		x := s.Tableau()
		wantInt(t, "rows", len(x.Rows), 1)
		wantInt(t, "the variable that was taken", x.Rows[0].Basic, stuck)
	}
}

// Each choice of signs, of bounds and of being low or high, by the model.
func TestS4EachWay(t *testing.T) {
	held := [][]string{nil, {"<0"}, {">0"}, {"<0", ">0"}, {"<1"}, {">-1"}, {"<1", ">0"}, {"<0", ">-1"}, {">1"}, {"<-1"}}
	seen := map[api.Errno]int{}
	for _, a := range []string{"1", "-1", "2/3"} {
		for _, b := range []string{"1", "-3"} {
			for _, x := range held {
				for _, y := range held {
					for _, z := range []string{">3", "<-3", ">1/2", "<-1/2"} {
						s, m := started(t, 2), &model{}
						m.grow()
						m.grow()
						f := form(a, 0, b, 1)
						define(t, s, f, 2)
						m.define(f)
						for v, l := range [][]string{x, y, {z}} {
							for i, c := range l {
								assert(t, s, m, v, c, 10*v+i)
							}
						}
						seen[wantCheck(t, s, m)]++
					}
				}
			}
		}
	}
	if seen[api.OK] < 500 || seen[api.ErrClash] < 100 {
		t.Fatal("what was answered:", seen)
	}
}

// assert lifts v to a number (">3"), or presses it ("<3").
func assert(t *testing.T, s *simplex.Simplex, m *model, v int, c string, why int) {
	t.Helper()
	d := plain(c[1:])
	if c[0] == '>' {
		lift(t, s, v, d, why)
		m.lift(v, in(d), why)
		return
	}
	press(t, s, v, d, why)
	m.press(v, in(d), why)
}

// wantCheck holds Check against the model, and asks for what S9 says of its answer. Each bound has a why of its own.
func wantCheck(t *testing.T, s *simplex.Simplex, m *model) api.Errno {
	t.Helper()
	l, e := s.Check()
	want, code := m.check()
	wantErr(t, "Check", e, code)
	wantTimes(t, "Check", l, want)
	wantLike(t, "Check", s, m)
	if e == api.OK {
		wantAllKept(t, s, m)
	} else {
		wantExplanation(t, m, told(l))
		wantSum(t, s, l, m)
	}
	return e
}

// wantSum: each variable that is basic now put as its form, the multipliers' sum is a number above 0.
func wantSum(t *testing.T, s *simplex.Simplex, l []api.Multiplier, m *model) {
	t.Helper()
	rows := polysOf(s.Tableau())
	total, constant := poly{}, nought()
	for _, x := range l {
		v, upper := m.whose(x.Why)
		sign := ratIn(x.Coef)
		if !upper {
			sign = opposite(sign)
		}
		put, isBasic := rows[v]
		if !isBasic {
			put = poly{v: one()}
		}
		limit, _ := s.Limit(v)
		b := limit.Lower
		if upper {
			b = limit.Upper
		}
		total, constant = total.plus(sign, put), constant.plus(opposite(sign), in(b.At))
	}
	if len(total) > 0 || constant.cmp(nought()) <= 0 {
		t.Fatalf("%v: the sum is %v and %v", told(l), total, constant)
	}
}

// Multipliers stand in their order, with the coefficients' numbers without their signs.
func TestS4Explanations(t *testing.T) {
	f := form("2", 0, "-1/3", 1)
	for _, c := range []struct {
		claims []claim
		want   []times
	}{
		{[]claim{most(0, "-1"), least(1, "3"), least(2, "5")}, by(12, "1", 10, "2", 11, "1/3")},
		{[]claim{least(2, "5"), least(1, "3"), most(0, "-1"), least(0, "-1")}, by(10, "1", 12, "2", 11, "1/3")},
		{[]claim{least(0, "1"), most(1, "-3"), most(2, "-5")}, by(12, "1", 10, "2", 11, "1/3")},
		{[]claim{most(1, "-3"), most(2, "-5"), least(2, "-9"), least(0, "1")}, by(11, "1", 13, "2", 10, "1/3")},
		{[]claim{{0, true, pair("0", "-1")}, least(1, "0"), {2, false, pair("0", "3")}}, by(12, "1", 10, "2", 11, "1/3")},
		{[]claim{least(0, "0"), most(1, "0"), {2, true, pair("0", "-1/9")}}, by(12, "1", 10, "2", 11, "1/3")},
		// behind a pivot it is another row's: x0 = 1/6 x1 + 1/2 x2
		{[]claim{most(0, "1"), least(1, "3"), least(2, "5")}, by(10, "1", 11, "1/6", 12, "1/2")},
		{[]claim{least(0, "-1"), most(1, "-3"), most(2, "-5")}, by(10, "1", 11, "1/6", 12, "1/2")},
	} {
		s := asserted(t, f, c.claims...)
		for range 3 { // it stays as it is
			l, e := s.Check()
			wantClash(t, fmt.Sprint(c.claims), l, e, c.want)
		}
	}
}

// Whys that are 0, below 0 or alike are told as they are.
func TestS4Whys(t *testing.T) {
	for _, whys := range [][3]int{{0, 0, 0}, {0, -1, 5}, {-7, -7, -7}, {3, 0, 3}} {
		s := first(t)
		press(t, s, 2, plain("4"), whys[0])
		lift(t, s, 0, plain("3"), whys[1])
		lift(t, s, 1, plain("2"), whys[2])
		l, e := s.Check()
		wantClash(t, "Check", l, e, by(whys[0], "1", whys[1], "1", whys[2], "1"))
	}
}

// With a clash the tableau and the values stay as they are then; behind Back Check goes on from there.
func TestS4BehindAClash(t *testing.T) {
	s := first(t)
	press(t, s, 2, plain("4"), 10)
	lift(t, s, 0, plain("3"), 11)
	lift(t, s, 1, plain("1"), 12)
	s.Push()
	lift(t, s, 3, plain("3"), 13)
	for range 3 {
		l, e := s.Check()
		wantClash(t, "Check", l, e, by(10, "1", 12, "2", 13, "1"))
		wantInt(t, "Pivots", s.Pivots(), 1)
		wantTexts(t, s, map[int]string{0: "1*x1+1*x3", 2: "2*x1+1*x3"})
		wantValues(t, "a clash", s, wholes(4, 1, 5, 3)...)
		_, e = s.Model()
		wantErr(t, "Model", e, api.ErrOpen)
	}
	wantErr(t, "Back", s.Back(0), api.OK)
	wantValues(t, "Back", s, wholes(4, 1, 5, 3)...)
	check(t, s) // 2 is still high: its row is 2 x1 + x3, and x3 has no lower bound now
	wantInt(t, "Pivots", s.Pivots(), 2)
	wantTexts(t, s, map[int]string{0: "-1*x1+1*x2", 3: "-2*x1+1*x2"})
	wantValues(t, "Check", s, wholes(3, 1, 4, 2)...)
}

// round is bounds of four forms of two variables, in which pivots can go round though each is of a variable that is low or high and of one that has room: behind the first one the six others lead to where they began.
var round = puzzle{
	vars:   2,
	forms:  []api.Form{form("-1", 0, "-2", 1), form("2", 0, "2", 1), form("2", 0, "-2", 1), form("2", 0, "-1", 1)},
	claims: []string{">1", ">-1", ">1", "<1", "<0", ">0"},
	walk:   [][2]int{{3, 1}, {2, 0}, {1, 3}, {4, 2}, {5, 1}, {0, 4}, {3, 5}},
	from:   1,
}

// roundButOne has such a way round too, and values within its bounds.
var roundButOne = puzzle{
	vars: 4,
	forms: []api.Form{
		form("-1", 0, "3", 1, "-3", 2, "3", 3), form("-1", 1, "1", 2, "-3", 3), form("-2", 0, "3", 1, "-2", 2, "3", 3), form("3", 0, "-3", 2, "2", 3),
	},
	claims: []string{">-1", "=1", ">-1", ">0", "<-1", "<1", "<1", ">1"},
	walk:   [][2]int{{6, 2}, {4, 3}, {7, 6}, {2, 0}, {5, 7}, {3, 2}, {0, 4}, {7, 5}, {2, 3}, {4, 0}},
	from:   4,
}

// puzzle is variables, forms of them, a claim for each ("=1" is both), and pivots that lead, from one of their places on, back to it.
type puzzle struct {
	vars   int
	forms  []api.Form
	claims []string
	walk   [][2]int
	from   int
}

// laid is a puzzle as a simplex and as a model, its variables and forms in another order.
func (p puzzle) laid(t *testing.T, vars, forms []int) (*simplex.Simplex, *model) {
	t.Helper()
	s, m := started(t, p.vars), &model{}
	for range p.vars {
		m.grow()
	}
	number := slices.Concat(vars, make([]int, len(p.forms)))
	for i, k := range forms {
		var f api.Form
		for _, part := range p.forms[k] {
			f = append(f, api.Mono{Var: vars[part.Var], Coef: part.Coef})
		}
		define(t, s, f, p.vars+i)
		m.define(f)
		number[p.vars+k] = p.vars + i
	}
	for k, c := range p.claims {
		v := number[k]
		if c[0] == '=' {
			assert(t, s, m, v, ">"+c[1:], 2*v)
			c = "<" + c[1:]
		}
		assert(t, s, m, v, c, 2*v+1)
	}
	return s, m
}

// wantRound: the walk's pivots are each of a basic variable that is low or high and one with which it may change places, and they lead back to where they were.
func (p puzzle) wantRound(t *testing.T) {
	t.Helper()
	_, m := p.laid(t, upTo(p.vars), upTo(len(p.forms)))
	var states []string
	for _, x := range p.walk {
		states = append(states, fmt.Sprint(m.basic, m.vals))
		may, _ := m.partners(x[0])
		if !slices.Contains(m.strays(), x[0]) || !slices.Contains(may, x[1]) {
			t.Fatalf("%v may not change places", x)
		}
		m.change(x[0], x[1])
	}
	wantInt(t, "where the walk leads back to", slices.Index(states, fmt.Sprint(m.basic, m.vals)), p.from)
}

func upTo(n int) []int {
	var out []int
	for i := range n {
		out = append(out, i)
	}
	return out
}

// orders is all orders of so many things.
func orders(n int) [][]int {
	if n == 0 {
		return [][]int{nil}
	}
	var out [][]int
	for _, l := range orders(n - 1) {
		for i := range n {
			out = append(out, slices.Insert(slices.Clone(l), i, n-1))
		}
	}
	return out
}

// Where pivots could go round, Check ends all the same, whatever the variables' numbers are.
func TestS4CheckEnds(t *testing.T) {
	for _, c := range []struct {
		puzzle
		want api.Errno
	}{{round, api.ErrClash}, {roundButOne, api.OK}} {
		c.wantRound(t)
		many := 0
		for _, vars := range orders(c.vars) {
			for _, forms := range orders(len(c.forms)) {
				s, m := c.laid(t, vars, forms)
				wantErr(t, "Check", wantCheck(t, s, m), c.want)
				many = max(many, s.Pivots())
			}
		}
		if many < 3 {
			t.Fatal("so few pivots", many)
		}
	}
}

// system is several forms of several variables, and bounds of them all; each bound has a why of its own.
func system(t *testing.T, r *rand.Rand) (*simplex.Simplex, *model) {
	t.Helper()
	vars := 1 + r.Intn(5)
	s, m := started(t, vars), &model{}
	for range vars {
		m.grow()
	}
	for range r.Intn(7) {
		f := api.Form{}
		for v := range len(m.roots) {
			if v < vars || r.Intn(4) == 0 {
				f = append(f, api.Mono{Var: v, Coef: of(big.NewRat(r.Int63n(7)-3, 1+r.Int63n(6)/4))})
			}
		}
		want, _ := m.define(f)
		define(t, s, f, want)
	}
	return s, m
}

// bounded asserts so many bounds, and tells the next why.
func bounded(t *testing.T, r *rand.Rand, s *simplex.Simplex, m *model, many, why int) int {
	t.Helper()
	for range many {
		v, d := r.Intn(len(m.roots)), someDelta(r)
		if why++; r.Intn(2) == 0 {
			d = away(r, d, -2)
			s.Lift(v, d, why)
			m.lift(v, in(d), why)
		} else {
			d = away(r, d, 2)
			s.Press(v, d, why)
			m.press(v, in(d), why)
		}
	}
	return why
}

// S9, and P5 of DOC.md: Check tells values within all bounds, or an explanation; never neither, and never both.
func TestS9Farkas(t *testing.T) {
	r := rand.New(rand.NewSource(99))
	seen, pivots, longest := map[api.Errno]int{}, 0, 0
	for range 500 {
		s, m := system(t, r)
		why := 0
		for range 4 {
			s.Push()
			m.level++
			why = bounded(t, r, s, m, r.Intn(2*len(m.roots)), why)
			ahead := s.Pivots()
			e := wantCheck(t, s, m)
			seen[e]++
			pivots += s.Pivots() - ahead
			longest = max(longest, s.Pivots()-ahead)
			if e != api.OK {
				to := r.Intn(m.level)
				wantErr(t, "Back", s.Back(to), m.back(to))
			}
		}
	}
	if seen[api.OK] < 300 || seen[api.ErrClash] < 300 || pivots < 1000 || longest < 6 {
		t.Fatal("what was answered:", seen, pivots, longest)
	}
}

// Bounds that some values keep never clash.
func TestS9BoundsAroundValues(t *testing.T) {
	r := rand.New(rand.NewSource(98))
	for range 300 {
		s, m := system(t, r)
		point := make([]both, len(m.roots))
		for v := range point {
			point[v] = in(someDelta(r))
		}
		for why := range 3 * len(m.roots) {
			v := r.Intn(len(m.roots))
			here := m.roots[v].value(point)
			gap := both{big.NewRat(r.Int63n(3), 1), big.NewRat(r.Int63n(3), 1)}
			if r.Intn(2) == 0 {
				lift(t, s, v, deltaOf(here.plus(big.NewRat(-1, 1), gap)), why)
			} else {
				press(t, s, v, deltaOf(here.plus(one(), gap)), why)
			}
			check(t, s)
		}
	}
}

func deltaOf(d both) api.Delta { return api.Delta{A: of(d[0]), B: of(d[1])} }

// Any calls, by the model.
func TestS4AnyCalls(t *testing.T) {
	r := rand.New(rand.NewSource(94))
	seen := map[api.Errno]int{}
	for range 400 {
		s, m := busy(t, r, 20+r.Intn(60))
		wantLike(t, "any calls", s, m)
		seen[wantCheck(t, s, m)]++
	}
	if seen[api.OK] < 50 || seen[api.ErrClash] < 50 {
		t.Fatal("what was answered:", seen)
	}
}
