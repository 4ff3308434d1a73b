package implied_test

import (
	"fmt"
	"math"
	"math/big"
	"math/rand"
	"testing"

	"fulcrum/api"
	"fulcrum/implied"
)

func wantRelate(t *testing.T, a, b api.Atom) {
	t.Helper()
	wantClauses(t, fmt.Sprintf("Relate of %+v and %+v", a, b), implied.Relate(a, b), clausesOf(a, b)...)
}

// In each line's last place stand the clauses that it tells.
func TestI5Relate(t *testing.T) {
	const x, y = 3, -2
	for _, c := range []struct {
		what string
		a, b api.Atom
		want []api.Clause
	}{
		{"the same", most("2", "1", x), most("2", "1", x), []api.Clause{{1, -2}, {-1, 2}}},
		{"the same, strict", below("2", "1", x), below("2", "1", x), []api.Clause{{1, -2}, {-1, 2}}},
		{"one is strict", below("2", "1", x), most("2", "1", x), []api.Clause{{-1, 2}}},
		{"the other is strict", most("2", "1", x), below("2", "1", x), []api.Clause{{1, -2}}},
		{"less", most("1", "1", x), most("2", "1", x), []api.Clause{{-1, 2}}},
		{"greater", most("3", "1", x), most("2", "1", x), []api.Clause{{1, -2}}},
		{"less, though strict", most("1", "1", x), below("2", "1", x), []api.Clause{{-1, 2}}},
		{"a multiple, the same", most("1", "1/2", x), most("-6", "3", x, "-6", x), []api.Clause{{1, 2}}},
		{"a multiple above 0, the same", most("1", "1/2", x), most("6", "3", x), []api.Clause{{1, -2}, {-1, 2}}},
		{"a multiple above 0, less", most("1", "1/2", x), most("5", "3", x), []api.Clause{{1, -2}}},
		{"a multiple above 0, greater", most("1", "1/2", x), most("7", "3", x), []api.Clause{{-1, 2}}},
		{"a multiple below 0, x is at least 2", most("1", "1/2", x), most("-6", "-3", x), []api.Clause{{1, 2}}},
		{"a multiple below 0, x is at least 3", most("1", "1/2", x), most("-9", "-3", x), []api.Clause{{-1, -2}}},
		{"a multiple below 0, x is at least 1", most("1", "1/2", x), most("-3", "-3", x), []api.Clause{{1, 2}}},
		{"a multiple below 0, x is above 2", most("1", "1/2", x), below("-6", "-3", x), []api.Clause{{1, 2}, {-1, -2}}},
		{"a multiple below 0, both strict", below("1", "1/2", x), below("-6", "-3", x), []api.Clause{{-1, -2}}},
		{"both of them below 0, less", most("2", "-1", x), most("3", "-1", x), []api.Clause{{-1, 2}}},
		{"both of them below 0, multiples", most("2", "-1", x), most("2", "-2", x), []api.Clause{{1, -2}}},
		{"two variables, a multiple below 0", most("2", "1", x, "-2", y), most("-1", "1", y, "-1/2", x), []api.Clause{{1, 2}}},
		{"two variables, no multiple", most("2", "1", x, "-2", y), most("-1", "2", y, "-1/2", x), nil},
		{"one variable more", most("2", "1", x), most("2", "1", x, "1", y), nil},
		{"another variable", most("2", "1", x), most("2", "1", y), nil},
		{"a form that falls away, true", most("2", "1", x), most("0", "1", y, "-1", y), []api.Clause{{1, 2}, {-1, 2}}},
		{"a form that falls away, false", most("2", "1", x), below("0", "1", y, "-1", y), []api.Clause{{1, -2}, {-1, -2}}},
		{"true and true", most("1"), below("1/9"), []api.Clause{{1, 2}, {1, -2}, {-1, 2}}},
		{"true and false", most("0"), below("0"), []api.Clause{{1, 2}, {1, -2}, {-1, -2}}},
		{"false and true", most("-1"), most("5"), []api.Clause{{1, 2}, {-1, 2}, {-1, -2}}},
		{"false and false", most("-1"), most("-1"), []api.Clause{{1, -2}, {-1, 2}, {-1, -2}}},
		{"true and a name", most("0"), named("p"), []api.Clause{{1, 2}, {1, -2}}},
		{"a name and true", named("p"), most("0"), []api.Clause{{1, 2}, {-1, 2}}},
		{"false and a name", below("0"), named("p"), []api.Clause{{-1, 2}, {-1, -2}}},
		{"a name and false", named("p"), below("0"), []api.Clause{{1, -2}, {-1, -2}}},
		{"one name", named("p"), named("p"), []api.Clause{{1, -2}, {-1, 2}}},
		{"two names", named("p"), named("q"), nil},
		{"a name and a form", named("p"), most("2", "1", x), nil},
		{"a form and a name", below("2", "1", x), named("p"), nil},
	} {
		wantClauses(t, c.what, implied.Relate(c.a, c.b), c.want...)
		wantRelate(t, c.a, c.b)
	}
}

// Whatever else stands in an atom with a Name says nothing.
func TestI5NamesWithAForm(t *testing.T) {
	x := most("2", "1", 0)
	for _, a := range []api.Atom{{Name: "p"}, {Name: "p", Form: x.Form, Bound: x.Bound}, {Name: "p", Strict: true}, {Name: "p", Form: x.Form, Bound: num("-9"), Strict: true}, {Name: "p", Bound: num("-1")}} {
		for _, b := range []api.Atom{{Name: "p"}, {Name: "p", Form: x.Form, Bound: num("3")}, {Name: "p", Form: form("1", 4), Strict: true}, {Name: "p", Bound: num("-1")}} {
			wantClauses(t, "one Name", implied.Relate(a, b), api.Clause{1, -2}, api.Clause{-1, 2})
		}
		wantClauses(t, "its form", implied.Relate(a, x))
		wantClauses(t, "its form ahead", implied.Relate(x, a))
		wantClauses(t, "another name", implied.Relate(a, api.Atom{Name: "q", Form: x.Form, Bound: x.Bound}))
		wantClauses(t, "what is true", implied.Relate(a, most("0")), api.Clause{1, 2}, api.Clause{-1, 2})
	}
	for _, name := range []string{"1*x0", "0", "-1", " ", "\xff", "\x00", "P", "pp"} {
		wantClauses(t, "a name that looks like a form", implied.Relate(named(name), most("0", "1", 0)))
		wantClauses(t, "a name like no other", implied.Relate(named(name), named("p")))
		wantClauses(t, "itself", implied.Relate(named(name), named(name)), api.Clause{1, -2}, api.Clause{-1, 2})
	}
}

// The same numbers, written otherwise; a Den of 0 is 0.
func TestI5NumbersThatAreNotNormal(t *testing.T) {
	two := api.Rat{Num: api.Int{Abs: api.Nat{6, 0}}, Den: api.Nat{3, 0}}
	for _, zero := range zeros() {
		twice := api.Atom{Form: api.Form{{Var: 1, Coef: zero}, {Var: 0, Coef: two}, {Var: 0, Coef: zero}}, Bound: zero}
		wantClauses(t, "2 x <= 0 and x <= 0", implied.Relate(twice, most("0", "1", 0)), api.Clause{1, -2}, api.Clause{-1, 2})
		nothing := api.Atom{Form: api.Form{{Var: 1, Coef: zero}}, Bound: zero, Strict: true}
		wantClauses(t, "0 < 0 and p", implied.Relate(nothing, named("p")), api.Clause{-1, 2}, api.Clause{-1, -2})
		nothing.Strict = false
		wantClauses(t, "0 <= 0 and p", implied.Relate(nothing, named("p")), api.Clause{1, 2}, api.Clause{1, -2})
	}
	wantClauses(t, "2 x <= 2 and x <= 1", implied.Relate(api.Atom{Form: api.Form{{Coef: two}}, Bound: two}, most("1", "1", 0)), api.Clause{1, -2}, api.Clause{-1, 2})
}

// someAtoms is atoms of several lines, with bounds that meet on them.
func someAtoms() []api.Atom {
	out := []api.Atom{named("p"), named("q"), {Name: "p", Form: form("1", 0), Bound: num("1"), Strict: true}}
	for _, f := range []api.Form{
		nil, form("1", 0, "-1", 0), form("1", 0), form("-2", 0), form("1/3", 0), form("1", 1), form("1", 0, "1", 1), form("-3", 1, "-3", 0), form("1", 0, "-1", 1),
		form("5", math.MinInt), form("-1", math.MaxInt, "2", math.MinInt),
	} {
		for _, b := range []string{"-2", "-1/3", "0", "2/3", "1"} {
			out = append(out, api.Atom{Form: f, Bound: num(b)}, api.Atom{Form: f, Bound: num(b), Strict: true})
		}
	}
	return out
}

func TestI5I7AnyTwoAtoms(t *testing.T) {
	l := someAtoms()
	for _, a := range l {
		for _, b := range l {
			wantRelate(t, a, b)
		}
	}
}

// someAtom is one that may have a line in common with others.
func someAtom(r *rand.Rand) api.Atom {
	if r.Intn(5) == 0 {
		return api.Atom{Name: []string{"p", "q", "r"}[r.Intn(3)], Form: someForm(r), Bound: someCoef(r), Strict: r.Intn(2) == 0}
	}
	f := []api.Form{form("1", 0), form("1", 0, "-2", 5), form("1/2", 1, "1", 2, "3", 3), nil, someForm(r)}[r.Intn(5)]
	c := someCoef(r)
	var out api.Form
	for _, i := range r.Perm(len(f)) {
		out = append(out, api.Mono{Var: f[i].Var, Coef: otherwise(of(product(ratIn(f[i].Coef), ratIn(c))))})
	}
	return api.Atom{Form: out, Bound: of(product(ratIn(c), big.NewRat(r.Int63n(5)-2, 1))), Strict: r.Intn(2) == 0}
}

func TestI5I7AnyAtoms(t *testing.T) {
	r := rand.New(rand.NewSource(5))
	some := 0
	for range 5000 {
		a, b := someAtom(r), someAtom(r)
		wantRelate(t, a, b)
		some += len(implied.Relate(a, b))
	}
	if some < 2000 {
		t.Errorf("only %d clauses were told", some)
	}
}

func TestI5LemmasAtTheirEdges(t *testing.T) {
	wantClauses(t, "nil", implied.Lemmas(nil))
	wantClauses(t, "the empty list", implied.Lemmas([]api.Atom{}))
	for _, a := range []api.Atom{named("p"), most("1"), below("0"), most("1", "1", 0)} {
		wantClauses(t, "one atom", implied.Lemmas([]api.Atom{a}))
		wantClauses(t, "one atom twice", implied.Lemmas([]api.Atom{a, a}), implied.Relate(a, a)...)
	}
	wantClauses(t, "names and lines of their own", implied.Lemmas([]api.Atom{named("p"), named("q"), most("1", "1", 0), most("1", "1", 1)}))
}

// By rising first places, then by rising second ones: those of one line and those that hang on no values between one another.
func TestI5LemmasInTheirOrder(t *testing.T) {
	got := implied.Lemmas([]api.Atom{most("2", "1", 0), named("p"), most("3", "1", 0), most("1"), named("p"), below("-4", "-2", 0)})
	wantClauses(t, "Lemmas", got,
		api.Clause{-1, 3}, api.Clause{1, 4}, api.Clause{-1, 4}, api.Clause{1, 6}, api.Clause{-1, -6},
		api.Clause{2, 4}, api.Clause{-2, 4}, api.Clause{2, -5}, api.Clause{-2, 5},
		api.Clause{3, 4}, api.Clause{-3, 4}, api.Clause{3, 6},
		api.Clause{4, 5}, api.Clause{4, -5}, api.Clause{4, 6}, api.Clause{4, -6})
}

func TestI5I7AnyLemmas(t *testing.T) {
	r := rand.New(rand.NewSource(8))
	for range 300 {
		var l []api.Atom
		for range r.Intn(9) {
			l = append(l, someAtom(r))
		}
		got := implied.Lemmas(l)
		wantClauses(t, fmt.Sprintf("Lemmas of %+v", l), got, lemmasOf(l)...)
		for range 10 {
			w := someWorld(r)
			for _, c := range got {
				if !isTrue(c, l, w) {
					t.Fatalf("%v of %+v is false in %+v", c, l, w)
				}
			}
		}
	}
}

func someWorld(r *rand.Rand) world {
	out := world{map[int]*big.Rat{}, map[string]int{}}
	for _, v := range []int{0, 1, 2, 3, 4, 5, -1, math.MinInt, math.MaxInt, 65536} {
		out.numbers[v] = big.NewRat(r.Int63n(7)-3, 1+r.Int63n(2))
	}
	for _, name := range []string{"p", "q", "r"} {
		out.truths[name] = r.Intn(2)
	}
	return out
}

// Of many atoms with few that speak of one thing, each pair of these is found.
func TestI5LongTables(t *testing.T) {
	var l []api.Atom
	for i := range 12000 {
		l = append(l, api.Atom{Form: api.Form{{Var: i % 11999, Coef: num("2")}}, Bound: of(big.NewRat(int64(i), 1))})
	}
	wantClauses(t, "Lemmas", implied.Lemmas(l), api.Clause{-1, 12000})
}
