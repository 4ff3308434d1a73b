package simplex_test

import (
	"fmt"
	"math/big"
	"math/rand"
	"testing"

	"fulcrum/api"
	"fulcrum/simplex"
)

func TestS1New(t *testing.T) {
	s := simplex.New()
	wantLike(t, "New", s, &model{})
	check(t, s)
	for _, v := range far(0) {
		wantNothing(t, s, v)
	}
}

// wantNothing: of what is no variable there is nothing but ErrVar.
func wantNothing(t *testing.T, s *simplex.Simplex, v int) {
	t.Helper()
	l, e := s.Lift(v, plain("1"), 1)
	wantErr(t, "Lift", e, api.ErrVar)
	wantTimes(t, "Lift", l, nil)
	l, e = s.Press(v, plain("-1"), 1)
	wantErr(t, "Press", e, api.ErrVar)
	wantTimes(t, "Press", l, nil)
	d, e := s.Value(v)
	wantErr(t, "Value", e, api.ErrVar)
	if !isBare(d) {
		t.Fatalf("Value: %+v beside an error", d)
	}
	limit, e := s.Limit(v)
	wantErr(t, "Limit", e, api.ErrVar)
	wantBound(t, "Limit", limit.Lower, nil)
	wantBound(t, "Limit", limit.Upper, nil)
	w, e := s.Define(form("1", v))
	wantErr(t, "Define", e, api.ErrVar)
	wantInt(t, "Define", w, 0)
}

func TestS1Var(t *testing.T) {
	s, m := simplex.New(), &model{}
	for i := range 12 {
		v, e := s.Var()
		m.grow()
		wantErr(t, "Var", e, api.OK)
		wantInt(t, "Var", v, len(m.roots)-1)
		wantLike(t, "Var", s, m)
		d := wholes(int64(i - 5))[0]
		lift(t, s, v, d, i)
		m.lift(v, in(d), i)
		if i%3 == 2 {
			f := form("2", v, "1", v-1)
			define(t, s, f, v+1)
			m.define(f)
		}
		s.Push()
		m.level++
	}
	wantErr(t, "Back", s.Back(0), m.back(0))
	wantLike(t, "variables stay behind Back", s, m)
}

func TestS1VarFull(t *testing.T) {
	s := started(t, 65536)
	for range 2 {
		v, e := s.Var()
		wantErr(t, "Var", e, api.ErrFull)
		wantInt(t, "Var beside an error", v, 0)
		wantInt(t, "Size", s.Size(), 65536)
	}
	v, e := s.Define(form("1", 0, "1", 65535))
	wantErr(t, "Define", e, api.ErrFull)
	wantInt(t, "Define beside an error", v, 0)
	define(t, s, form("1", 65535), 65535)
	wantNothing(t, s, 65536)
	lift(t, s, 65535, plain("3"), 1)
	check(t, s)
	wantRows(t, "Tableau", s.Tableau(), 65536, nil)
	l, e := s.Model()
	wantErr(t, "Model", e, api.OK)
	wantInt(t, "Model", len(l), 65536)
	wantInt(t, "the last one's number", ratIn(l[65535]).Cmp(bigNum("3")), 0)
}

func TestS2DefineFull(t *testing.T) {
	s := started(t, 65535)
	f := form("1", 0, "2", 65534)
	define(t, s, f, 65535)
	wantInt(t, "Size", s.Size(), 65536)
	for _, g := range []api.Form{nil, form("2", 0), form("2", 65535), form("1", 1, "1", 2)} {
		v, e := s.Define(g)
		wantErr(t, "Define", e, api.ErrFull)
		wantInt(t, "Define beside an error", v, 0)
	}
	define(t, s, form("2", 65534, "1", 0), 65535)
	define(t, s, form("1", 65535), 65535)
	define(t, s, form("1", 7), 7)
	_, e := s.Define(form("1", 65536))
	wantErr(t, "Define of no variable", e, api.ErrVar)
	_, e = s.Var()
	wantErr(t, "Var", e, api.ErrFull)
	lift(t, s, 65534, plain("3"), 1)
	d, e := s.Value(65535)
	wantErr(t, "Value", e, api.OK)
	wantDelta(t, "Value", d, in(plain("6")))
	wantRows(t, "Tableau", s.Tableau(), 65536, map[int]poly{65535: polyOf(f)})
}

// Rows may be as many as there may be variables.
func TestS2DefineUpToTheFull(t *testing.T) {
	s := started(t, 1)
	times := func(v int) api.Form { return api.Form{{Var: 0, Coef: of(big.NewRat(int64(v+1), 1))}} }
	for v := 1; v < 65536; v++ {
		define(t, s, times(v), v)
	}
	_, e := s.Define(times(65536))
	wantErr(t, "Define", e, api.ErrFull)
	define(t, s, times(65535), 65535)
	lift(t, s, 65535, plain("65536"), 1)
	check(t, s)
	wantInt(t, "Pivots", s.Pivots(), 1)
	for _, v := range []int{0, 1, 2, 30000, 65535} {
		d, e := s.Value(v)
		wantErr(t, "Value", e, api.OK)
		wantDelta(t, "Value", d, both{big.NewRat(int64(v+1), 1), new(big.Rat)})
	}
}

func TestS2NoSuchVariable(t *testing.T) {
	s, m := busyOne(t)
	for _, v := range far(s.Size()) {
		for _, f := range []api.Form{form("1", v), form("2", v), form("1", 0, "1", v), form("1", v, "1", 1, "1", v), form("1", 0, "-1/7", v), form("1", v, "1", 0, "-2", v)} {
			got, e := s.Define(f)
			wantErr(t, fmt.Sprintf("Define of %v", polyOf(f)), e, api.ErrVar)
			wantInt(t, "Define beside an error", got, 0)
		}
		wantLike(t, "Define", s, m)
	}
}

// A variable that there is not counts for nothing where its coefficients fall away.
func TestS2VariablesThatFallAway(t *testing.T) {
	s := started(t, 2)
	for _, v := range far(2) {
		define(t, s, form("1", v, "1", 1, "-1", v), 1)
		for _, zero := range zeros() {
			define(t, s, append(form("1", 0), api.Mono{Var: v, Coef: zero}), 0)
		}
		define(t, s, form("1/2", v, "3", 1, "1/2", v, "-1", v), 2)
		define(t, s, form("0", v), 3)
	}
	wantTexts(t, s, map[int]string{2: "3*x1", 3: "0"})
}

func TestS2TheEmptyForm(t *testing.T) {
	s, m := simplex.New(), &model{}
	for _, f := range []api.Form{nil, {}, form("0", 7), form("1", 3, "-1", 3), form("1", 0, "1", 1, "-1", 0, "-1", 1)} {
		define(t, s, f, 0)
		m.define(f)
		wantLike(t, "the empty form", s, m)
	}
	wantTexts(t, s, map[int]string{0: "0"})
	check(t, s)
	s.Push()
	lift(t, s, 0, pair("0", "1"), 6)
	l, e := s.Check()
	wantClash(t, "Check", l, e, by(6, "1"))
	wantErr(t, "Back", s.Back(0), api.OK)
	press(t, s, 0, plain("-1"), 7)
	l, e = s.Check()
	wantClash(t, "Check", l, e, by(7, "1"))
}

func TestS2OneVariable(t *testing.T) {
	s := first(t)
	two := api.Rat{Num: num("2").Num, Den: api.Nat{2, 0}}
	for v := range 4 { // basic ones too
		for _, f := range []api.Form{form("1", v), {{Var: v, Coef: two}}, form("1/2", v, "1/2", v), form("3", v, "-2", v), form("-1", v, "0", 9, "2", v)} {
			define(t, s, f, v)
		}
	}
	wantInt(t, "Size", s.Size(), 4)
	for i, f := range []api.Form{form("-1", 0), form("2", 0), form("1/2", 0), form("-1", 2), form("2", 2), form("1", 1, "1", 1), form("3", 3)} {
		define(t, s, f, 4+i)
	}
	wantTexts(t, s, map[int]string{2: "1*x0+1*x1", 3: "1*x0+-1*x1", 4: "-1*x0", 5: "2*x0", 6: "1/2*x0", 7: "-1*x0+-1*x1", 8: "2*x0+2*x1", 9: "2*x1", 10: "3*x0+-3*x1"})
}

// The same form gives the same variable, however it is written, whatever was done in between. Another one that says the same by other variables is another one.
func TestS2TheSameForm(t *testing.T) {
	s := first(t)
	define(t, s, form("2", 0, "1", 2), 4)
	define(t, s, form("3", 0, "1", 1), 5) // says the same
	again := func() {
		t.Helper()
		define(t, s, form("1", 1, "1", 0), 2)
		define(t, s, form("-3", 1, "1/3", 0, "2/3", 0, "1", 7, "4", 1, "-1", 7), 2)
		define(t, s, form("-1", 1, "1", 0), 3)
		define(t, s, form("1", 2, "2", 0), 4)
		define(t, s, form("1", 1, "3", 0), 5)
		wantInt(t, "Size", s.Size(), 6)
	}
	again()
	s.Push()
	lift(t, s, 2, plain("4"), 1)
	press(t, s, 3, plain("-2"), 2)
	check(t, s)
	wantInt(t, "Pivots", s.Pivots(), 2)
	again()
	s.Push()
	wantErr(t, "Back", s.Back(1), api.OK)
	again()
	wantErr(t, "Back", s.Back(0), api.OK)
	again()
}

// A form that was defined on a level that is left is known still.
func TestS2DefinedOnALevelThatIsLeft(t *testing.T) {
	s := started(t, 2)
	s.Push()
	define(t, s, form("1", 0, "5", 1), 2)
	lift(t, s, 2, plain("1"), 1)
	wantErr(t, "Back", s.Back(0), api.OK)
	define(t, s, form("5", 1, "1", 0), 2)
	wantTexts(t, s, map[int]string{2: "1*x0+5*x1"})
	wantLimit(t, "Back", s, 2, nil, nil)
}

func TestS2FormsOverBasicVariables(t *testing.T) {
	s := first(t)
	define(t, s, form("1", 2, "1", 3), 4)
	define(t, s, form("1", 2, "-1", 0, "-1", 1), 5)
	wantTexts(t, s, map[int]string{2: "1*x0+1*x1", 3: "1*x0+-1*x1", 4: "2*x0", 5: "0"})
	lift(t, s, 2, plain("6"), 1) // 2 and 0 change places
	check(t, s)
	wantInt(t, "Pivots", s.Pivots(), 1)
	lift(t, s, 1, plain("1"), 2)
	define(t, s, form("1", 0, "3", 1), 6)
	define(t, s, form("1/2", 4, "1", 3, "-1", 0, "5", 2), 7)
	wantTexts(t, s, map[int]string{0: "-1*x1+1*x2", 3: "-2*x1+1*x2", 4: "-2*x1+2*x2", 5: "0", 6: "2*x1+1*x2", 7: "-2*x1+6*x2"})
	wantValues(t, "Define", s, wholes(5, 1, 6, 4, 10, 0, 8, 34)...)
	wantLimit(t, "Define", s, 6, nil, nil)
}

// Define's answers, rows and values by the model, behind any calls.
func TestS2Define(t *testing.T) {
	r := rand.New(rand.NewSource(92))
	seen := map[api.Errno]int{}
	for range 300 {
		s, m := busy(t, r, 10+r.Intn(30))
		for range 3 {
			f := someForm(r, len(m.roots))
			got, e := s.Define(f)
			want, code := m.define(f)
			wantErr(t, "Define", e, code)
			wantInt(t, "Define", got, want)
			wantLike(t, "Define", s, m)
			seen[e]++
		}
	}
	if seen[api.OK] < 500 || seen[api.ErrVar] < 10 {
		t.Fatal("what was answered:", seen)
	}
}

// busyOne is one that has pivoted, with bounds on two levels.
func busyOne(t *testing.T) (*simplex.Simplex, *model) {
	t.Helper()
	r := rand.New(rand.NewSource(7))
	for {
		if s, m := busy(t, r, 40); s.Pivots() > 2 && s.Level() > 1 && len(m.moves) > 3 {
			return s, m
		}
	}
}
