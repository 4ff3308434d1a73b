package bounds_test

import (
	"fmt"
	"math"
	"math/big"
	"math/rand"
	"slices"
	"testing"

	"fulcrum/api"
	"fulcrum/bounds"
)

// modelOf is what a state tells, and whether it may be, by the words of P8.6. It looks forward: a Change moved its bound to what the next Change of that bound says it Was, or to the Limit, if there is none.
func modelOf(s api.Bounds) (*model, bool) {
	if len(s.Limits) > 65536 || s.Level < 0 || s.Level > 2147483647 {
		return nil, false
	}
	for _, l := range s.Limits {
		if !clean(l.Lower) || !clean(l.Upper) || l.Lower.Has && l.Upper.Has && in(l.Lower.At).cmp(in(l.Upper.At)) > 0 {
			return nil, false
		}
	}
	m := &model{level: s.Level}
	for i, c := range s.Trail {
		if c.Var < 0 || c.Var >= len(s.Limits) || c.Level < 0 || c.Level > s.Level || i > 0 && c.Level < s.Trail[i-1].Level || !clean(c.Was) {
			return nil, false
		}
		to := becomes(s, c.Var, c.Upper, i+1)
		if !to.Has {
			return nil, false
		}
		if c.Was.Has {
			order := in(c.Was.At).cmp(in(to.At))
			if c.Upper && order <= 0 || !c.Upper && order >= 0 {
				return nil, false
			}
		}
		m.moves = append(m.moves, moved{c.Var, c.Upper, c.Level, knownOf(to)})
	}
	for v := range s.Limits {
		m.first = append(m.first, [2]*known{knownOf(becomes(s, v, false, 0)), knownOf(becomes(s, v, true, 0))})
	}
	return m, true
}

// becomes is what stands of a bound ahead of the Change with that place.
func becomes(s api.Bounds, v int, upper bool, place int) api.Bound {
	for _, c := range s.Trail[place:] {
		if c.Var == v && c.Upper == upper {
			return c.Was
		}
	}
	if upper {
		return s.Limits[v].Upper
	}
	return s.Limits[v].Lower
}

func clean(b api.Bound) bool { return b.Has || b.Why == 0 && isBare(b.At) }

// wantLoad asks for a store that is as the state tells, or for ErrState.
func wantLoad(t *testing.T, state api.Bounds) *bounds.Store {
	t.Helper()
	m, ok := modelOf(state)
	s, e := bounds.Load(state)
	if !ok {
		wantErr(t, fmt.Sprintf("Load of %+v", state), e, api.ErrState)
		if s != nil {
			t.Fatal("a store beside an error")
		}
		return nil
	}
	wantErr(t, fmt.Sprintf("Load of %+v", state), e, api.OK)
	wantStore(t, "Load", s, m)
	return s
}

// odd is a bound's number as it may not be where there is no bound.
func odd() []api.Bound {
	out := []api.Bound{{Why: 1}, {Why: -1}, {Why: math.MinInt}}
	for _, r := range []api.Rat{
		{Num: api.Int{Neg: true}}, {Num: api.Int{Abs: api.Nat{0}}}, {Num: api.Int{Abs: api.Nat{7}}}, {Den: api.Nat{0}}, {Den: api.Nat{1}}, {Num: api.Int{Neg: true, Abs: api.Nat{0}}, Den: api.Nat{0, 0}},
	} {
		out = append(out, api.Bound{At: api.Delta{A: r}}, api.Bound{At: api.Delta{B: r}})
	}
	return out
}

// loose is a state that may be: two variables, at level 2.
func loose() api.Bounds {
	return api.Bounds{
		Limits: []api.Limit{{Lower: at(plain("3"), 4), Upper: at(plain("5"), 6)}, {Upper: at(pair("1", "-1"), 0)}},
		Level:  2,
		Trail: []api.Change{
			{Var: 0, Was: at(plain("1"), 1)}, {Var: 0, Level: 1, Was: at(pair("3", "-1"), 2)}, {Var: 0, Upper: true, Level: 1}, {Var: 1, Upper: true, Level: 2, Was: at(plain("1"), -1)}, {Var: 0, Upper: true, Level: 2, Was: at(pair("5", "1"), 3)},
		},
	}
}

func wantBad(t *testing.T, what string, state api.Bounds) {
	t.Helper()
	if _, ok := modelOf(state); ok {
		t.Fatalf("%s: the test's own words let it be: %+v", what, state)
	}
	s, e := bounds.Load(state)
	wantErr(t, what, e, api.ErrState)
	if s != nil {
		t.Fatalf("%s: a store beside an error", what)
	}
}

func TestP86LoadOfWhatMayBe(t *testing.T) {
	wantLoad(t, loose())
	lower := at(plain("1"), 0)
	for _, state := range []api.Bounds{
		{}, {Limits: []api.Limit{}, Trail: []api.Change{}}, {Level: 1}, {Level: 2147483647}, {Limits: make([]api.Limit, 3)},
		{Limits: []api.Limit{{Lower: lower}}}, {Limits: []api.Limit{{Upper: lower}, {}}, Level: 3}, {Limits: []api.Limit{{Lower: lower, Upper: lower}}},
		{Limits: []api.Limit{{Lower: at(pair("1", "-1"), 2), Upper: lower}}}, {Limits: []api.Limit{{Lower: api.Bound{Has: true}, Upper: api.Bound{Has: true}}}},
		{Limits: []api.Limit{{Lower: lower}}, Trail: []api.Change{{}}}, {Limits: []api.Limit{{Upper: lower}}, Level: 7, Trail: []api.Change{{Upper: true, Level: 7}}},
		{Limits: []api.Limit{{Upper: lower}}, Level: 2147483647, Trail: []api.Change{{Upper: true, Level: 2147483647, Was: at(pair("1", "1/2"), math.MaxInt)}}},
		{Limits: []api.Limit{{Lower: at(api.Delta{}, 1)}}, Trail: []api.Change{{Was: at(plain("-1"), 1)}}},
		{Limits: []api.Limit{{Lower: lower}}, Trail: []api.Change{{Was: at(plain("-3"), 0)}, {Was: at(plain("-2"), 0)}, {Was: at(plain("-1"), 0)}}},
	} {
		if wantLoad(t, state) == nil {
			t.Fatalf("%+v may be", state)
		}
	}
}

// Numbers are read as they are, and told normal.
func TestP86LoadReadsNumbersAsTheyAre(t *testing.T) {
	for _, n := range nears() {
		for _, same := range written(n.at) {
			for _, below := range n.below {
				for _, lower := range written(below) {
					was := api.Change{Var: 0, Level: 1, Was: at(lower, 3)}
					if wantLoad(t, api.Bounds{Limits: []api.Limit{{Lower: at(same, 1), Upper: at(n.at, 2)}}, Level: 1, Trail: []api.Change{was}}) == nil {
						t.Fatal("no store")
					}
					wantBad(t, "a lower bound above the upper one", api.Bounds{Limits: []api.Limit{{Lower: at(same, 1), Upper: at(lower, 2)}}})
				}
			}
			was := api.Change{Var: 0, Was: at(same, 3)}
			wantBad(t, "a Was that is alike", api.Bounds{Limits: []api.Limit{{Lower: at(n.at, 1)}}, Trail: []api.Change{was}})
			was.Upper = true
			wantBad(t, "a Was that is alike", api.Bounds{Limits: []api.Limit{{Upper: at(n.at, 1)}}, Trail: []api.Change{was}})
		}
	}
}

func TestP86LoadOfTooManyLimits(t *testing.T) {
	limits := make([]api.Limit, 65537)
	s := loaded(t, api.Bounds{Limits: limits[:65536]})
	wantInt(t, "Vars", s.Vars(), 65536)
	_, e := s.Grow()
	wantErr(t, "Grow", e, api.ErrFull)
	wantBad(t, "too many Limits", api.Bounds{Limits: limits})
}

func TestP86LoadOfWrongLevels(t *testing.T) {
	for _, level := range []int{-1, -2, 2147483648, math.MaxInt, math.MinInt} {
		wantBad(t, "a wrong Level", api.Bounds{Level: level})
		state := loose()
		state.Level = level
		wantBad(t, "a wrong Level", state)
	}
	state := loose()
	state.Level = 1
	wantBad(t, "a Level below its Changes", state)
	s := loaded(t, api.Bounds{Level: 2147483647})
	s.Push()
	wantInt(t, "Level", s.Level(), 2147483648)
	wantErr(t, "Back", s.Back(2147483648), api.OK)
	wantErr(t, "Back", s.Back(2147483647), api.OK)
	wantErr(t, "Back", s.Back(2147483648), api.ErrLevel)
	wantErr(t, "Back", s.Back(0), api.OK)
}

// A bound that is none has neither a limb nor a sign nor a why.
func TestP86LoadOfABoundThatIsNone(t *testing.T) {
	for _, none := range odd() {
		for v := range 3 {
			state := api.Bounds{Limits: make([]api.Limit, 3)}
			state.Limits[v].Lower = none
			wantBad(t, "a lower bound that is none", state)
			state.Limits[v] = api.Limit{Upper: none}
			wantBad(t, "an upper bound that is none", state)
			state.Limits[v] = api.Limit{Lower: at(plain("1"), 1), Upper: none}
			wantBad(t, "an upper bound that is none", state)
		}
		state := loose()
		state.Trail[2].Was = none
		wantBad(t, "a Was that is none", state)
		wantBad(t, "a Was that is none", api.Bounds{Limits: []api.Limit{{Lower: at(plain("1"), 1)}}, Trail: []api.Change{{Was: none}}})
	}
}

// Lists without a limb say nothing, whatever room is behind them.
func TestP86LoadOfEmptyLists(t *testing.T) {
	empty := api.Rat{Num: api.Int{Abs: make(api.Nat, 0, 3)}, Den: api.Nat{}}
	none := api.Bound{At: api.Delta{A: empty, B: empty}}
	state := api.Bounds{Limits: []api.Limit{{Lower: none, Upper: at(plain("1"), 1)}}, Trail: []api.Change{{Upper: true, Was: none}}}
	if wantLoad(t, state) == nil {
		t.Fatal("no store")
	}
}

// Each of these has one thing otherwise than loose has.
func TestP86LoadOfWrongChanges(t *testing.T) {
	for i := range loose().Trail {
		for _, v := range []int{-1, 2, 3, math.MaxInt, math.MinInt} {
			state := loose()
			state.Trail[i].Var = v
			wantBad(t, "a Change of no variable", state)
		}
		for _, level := range []int{-1, 3, math.MaxInt, math.MinInt} {
			state := loose()
			state.Trail[i].Level = level
			wantBad(t, "a Change at no level", state)
		}
		if was := loose().Trail[i].Level; i > 0 && was > 0 && loose().Trail[i-1].Level == was {
			state := loose()
			state.Trail[i].Level = was - 1
			wantBad(t, "a Change at a level below the one ahead", state)
		}
	}
	for _, c := range []struct {
		place int
		was   api.Bound
	}{
		{1, at(plain("3"), 2)}, {1, at(pair("3", "1"), 2)}, {1, at(plain("4"), 2)}, {1, api.Bound{}}, {0, at(pair("3", "-1"), 1)}, {0, at(plain("3"), 1)}, {1, at(plain("1"), 2)}, {1, at(plain("0"), 2)},
		{4, at(plain("5"), 3)}, {4, at(pair("5", "-1"), 3)}, {4, at(plain("4"), 3)}, {4, api.Bound{}}, {3, at(pair("1", "-1"), -1)}, {3, at(pair("1", "-2"), -1)}, {3, at(plain("0"), -1)},
	} {
		state := loose()
		state.Trail[c.place].Was = c.was
		wantBad(t, fmt.Sprintf("Change %d with another Was", c.place), state)
	}
	state := loose()
	state.Trail[3].Upper = false
	wantBad(t, "a Change of a bound that is none", state)
	state = loose()
	state.Limits[1].Upper = api.Bound{}
	wantBad(t, "a Change of a bound that is none", state)
	state = loose()
	state.Trail = append(state.Trail, api.Change{Var: 1, Level: 2})
	wantBad(t, "a Change of a bound that is none", state)
}

// spoil changes one thing of a state, so that mostly it may not be.
func spoil(r *rand.Rand, s api.Bounds) api.Bounds {
	limb := odd()[r.Intn(len(odd()))]
	switch r.Intn(9) {
	case 0:
		s.Level += []int{-1, 1, -s.Level - 1, math.MaxInt32 - s.Level, math.MaxInt32 - s.Level + 1}[r.Intn(5)]
	case 1, 2:
		if len(s.Limits) > 0 {
			l := &s.Limits[r.Intn(len(s.Limits))]
			*[]*api.Bound{&l.Lower, &l.Upper}[r.Intn(2)] = []api.Bound{limb, {}, at(someDelta(r), someWhy(r))}[r.Intn(3)]
		}
	case 3:
		if len(s.Limits) > 0 {
			s.Limits = s.Limits[:len(s.Limits)-1]
		}
	default:
		if len(s.Trail) == 0 {
			s.Trail = append(s.Trail, api.Change{Var: r.Intn(3) - 1})
			return s
		}
		i := r.Intn(len(s.Trail))
		c := &s.Trail[i]
		switch r.Intn(6) {
		case 0:
			c.Var += r.Intn(3) - 1
		case 1:
			c.Level += r.Intn(3) - 1
		case 2:
			c.Upper = !c.Upper
		case 3:
			c.Was = []api.Bound{limb, {}, at(someDelta(r), someWhy(r))}[r.Intn(3)]
		case 4:
			s.Trail = slices.Delete(s.Trail, i, i+1)
		case 5:
			s.Trail = slices.Insert(s.Trail, i, *c)
		}
	}
	return s
}

// States that stores told, and such with things otherwise.
func TestP86LoadOfAnyState(t *testing.T) {
	r := rand.New(rand.NewSource(86))
	good, bad := 0, 0
	for range 400 {
		s, m := newStore(t, 2), newModel(2)
		for range r.Intn(25) {
			step(t, r, s, m)
		}
		for range 8 {
			state := s.State()
			for range 1 + r.Intn(2) {
				state = spoil(r, state)
			}
			if u := wantLoad(t, state); u == nil {
				bad++
			} else {
				good++
			}
		}
	}
	if good < 300 || bad < 300 {
		t.Fatalf("%d may be, %d may not", good, bad)
	}
}

// P8.10: a store that Load made of a State answers from then on as the one that told it.
func TestP810LoadedStoresGoOn(t *testing.T) {
	r := rand.New(rand.NewSource(810))
	for range 150 {
		s, m := newStore(t, 3), newModel(3)
		for range r.Intn(40) {
			step(t, r, s, m)
		}
		u, n := loaded(t, s.State()), m.clone()
		wantStore(t, "Load", u, n)
		for range 25 {
			seed := r.Int63()
			step(t, rand.New(rand.NewSource(seed)), s, m)
			step(t, rand.New(rand.NewSource(seed)), u, n)
			wantStore(t, "the one that told it", s, m)
			wantStore(t, "the one that was loaded", u, n)
		}
	}
}

// A state that no calls lead to (bounds that no Change speaks of, a first Was that is a bound) is gone on with all the same.
func TestP86LoadedStatesGoOn(t *testing.T) {
	r := rand.New(rand.NewSource(861))
	for range 60 {
		state := loose()
		m, ok := modelOf(state)
		if !ok {
			t.Fatal("loose may be")
		}
		s := loaded(t, state)
		for range 25 {
			step(t, r, s, m)
			wantStore(t, "loose, gone on with", s, m)
		}
	}
	s := loaded(t, loose())
	for level := 2; level >= 0; level-- {
		wantErr(t, "Back", s.Back(level), api.OK)
	}
	l, e := s.Limit(0)
	wantErr(t, "Limit", e, api.OK)
	wantLimit(t, "Limit", l, &known{both{big.NewRat(3, 1), big.NewRat(-1, 1)}, 2}, nil)
}
