package atoms_test

import (
	"fmt"
	"math"
	"math/big"
	"math/rand"
	"slices"
	"strings"
	"testing"

	"fulcrum/api"
	"fulcrum/atoms"
)

func TestA1New(t *testing.T) {
	l := atoms.New()
	wantText(t, "New", told(l), told([]api.Atom{{Bound: raw(false, nil, api.Nat{1})}}))
	wantErr(t, "Check of New", atoms.Check(l), api.OK)
	l[0].Name, l[0].Bound.Den[0] = "spoilt", 7
	wantText(t, "another New", told(atoms.New()), told(table()))
}

// unlike are atoms that may be, of which any two have one thing alone that is not the same, or more.
func unlike() []api.Atom {
	least, greatest := math.MinInt, math.MaxInt
	long := big.NewInt(0).Lsh(big.NewInt(1), 96).String()
	longer := big.NewInt(0).Lsh(big.NewInt(1), 128).String()
	return []api.Atom{
		named("p"), named("q"), named("P"), named("pp"), named(" "), named("\x00"), named("\x00\x00"), named("\x01"), named("\x01\x00\x00\x01\x01"), named("\xff"), named("é"), named("1*x0 <= 0"), named(strings.Repeat("z", 5000)),
		most("0", "1", 0), under("0", "1", 0), most("0", "1", 1), most("0", "1", -1), most("0", "1", least), most("0", "1", greatest), most("0", "1", 127), most("0", "1", 128), most("0", "1", 1<<32), under("0", "1", 1<<32),
		most("1", "1", 0), most("-1", "1", 0), most("1/2", "1", 0), most("-1/2", "1", 0), most("2", "1", 0), most("1/3", "1", 0), most("2/3", "1", 0), most("3/2", "1", 0), under("3/2", "1", 0),
		most("128", "1", 0), most("4294967296", "1", 0), most("1/4294967296", "1", 0), most("18446744073709551615/2", "1", 0), most("2/18446744073709551615", "1", 0), most("-2/18446744073709551615", "1", 0),
		most("7/4294967298", "1", 0), most("8589934599", "1", 0), // the limbs 7, 2, 1 both, one behind the other
		most(long, "1", 0), most(longer, "1", 0), most(long+"/3", "1", 0), most("3/"+long, "1", 0), most("3/"+longer, "1", 0), most("-3/"+longer, "1", 0), most("10000000000000000000000000000000001/"+longer, "1", 0), most(longer+"/10000000000000000000000000000000001", "1", 0),
		most("0", "1", 0, "1", 1), most("0", "1", 0, "-1", 1), most("0", "1", 0, "2", 1), most("0", "2", 0, "1", 1), most("0", "2", 0, "3", 1), most("0", "1", 0, "1", 2), most("0", "1", 1, "1", 2), most("0", "1", 0, "1", 1, "1", 2),
		most("0", "6", 0, "10", 1, "15", 2), most("0", "6", 0, "-10", 1, "15", 2), most("1/6", "6", 0, "-10", 1, "15", 2), most("0", "6", -2, "10", 1, "15", 2), most("0", "1", least, "1", greatest),
		most("0", long, 0, "3", 1), most("0", longer, 0, "3", 1), most("0", "3", 0, long, 1), most("0", "3", 0, "-"+long, 1), most("0", long, 0, "10000000000000000000000000000000001", 1), most("0", "1", 0, long, 1), most("0", "18446744073709551615", 0, "18446744073709551614", 1),
	}
}

func TestA1TablesThatMayBe(t *testing.T) {
	l := unlike()
	wantErr(t, "Check of the true atom alone", atoms.Check(table()), api.OK)
	wantErr(t, "Check of all", atoms.Check(table(l...)), api.OK)
	wantErr(t, "Check of some", atoms.Check(plain()), api.OK)
	for i, a := range l {
		wantErr(t, "Check with "+toldAtom(a), atoms.Check(table(a)), api.OK)
		for _, b := range l[:i] {
			wantErr(t, "Check with "+toldAtom(b)+" and "+toldAtom(a), atoms.Check(table(a, b)), api.OK)
		}
	}
	for _, empty := range []api.Nat{nil, {}} {
		odd := api.Atom{Form: api.Form{}, Bound: raw(false, empty, api.Nat{1})}
		wantErr(t, "Check with empty lists", atoms.Check([]api.Atom{odd, most("1", "1", 0)}), api.OK)
	}
}

// wantNoTable: every call refuses a table, whatever else is wrong, and tells nothing beside it.
func wantNoTable(t *testing.T, what string, l []api.Atom) {
	t.Helper()
	was := told(l)
	wantErr(t, "Check, "+what, atoms.Check(l), api.ErrAtom)
	for _, name := range []string{"", "p", "new"} {
		wantNoName(t, what, l, name, api.ErrAtom)
	}
	for _, f := range []api.Affine{{}, affine("5"), affine("-3/2", "1", 0), affine("1", "-1", 9)} {
		wantNotBelow(t, what, l, f, false, api.ErrAtom)
		wantNotBelow(t, what, l, f, true, api.ErrAtom)
	}
	for _, lit := range []int{0, 1, -1, 2, -2, 99, math.MinInt} {
		wantSaysNothing(t, what, l, lit)
		wantNotHeld(t, what, l, lit, nil, nil, api.ErrAtom)
		wantNotHeld(t, what, l, lit, nums("1"), truths("p"), api.ErrAtom)
		wantNotImplied(t, what, l, lit, 1)
		wantNotImplied(t, what, l, -1, lit)
		wantNoText(t, what, l, lit)
	}
	wantText(t, "the table, "+what, told(l), was)
}

// wantNoAtom: no table with this atom may be, wherever it stands behind the first one.
func wantNoAtom(t *testing.T, what string, a api.Atom) {
	t.Helper()
	wantNoTable(t, what, table(a))
	wantNoTable(t, what+", ahead of others", table(a, named("r"), most("77", "1", 7)))
	wantNoTable(t, what+", between others", table(named("r"), a, most("77", "1", 7)))
	wantNoTable(t, what+", behind others", append(plain(), a))
}

func TestA1FirstAtom(t *testing.T) {
	wantNoTable(t, "nil", nil)
	wantNoTable(t, "empty", []api.Atom{})
	wantNoTable(t, "empty, with room behind it", plain()[:0])
	for _, a := range []api.Atom{
		{}, named("p"), most("0", "1", 0), most("1"), most("-1"), under("0"), under("1"), {Name: "p"},
		{Form: form("0", 0), Bound: num("0")}, {Form: form("1", 0, "-1", 0), Bound: num("0")},
		{Bound: raw(true, nil, api.Nat{1})}, {Bound: raw(false, api.Nat{0}, api.Nat{1})}, {Bound: raw(false, nil, api.Nat{2})}, {Bound: raw(false, nil, api.Nat{1, 0})}, {Bound: raw(false, nil, nil)}, {Bound: raw(false, nil, api.Nat{0})}, {Bound: raw(false, api.Nat{5}, nil)},
	} {
		wantNoTable(t, "first "+toldAtom(a), []api.Atom{a})
		wantNoTable(t, "first "+toldAtom(a)+", and more", append([]api.Atom{a}, plain()[1:]...))
		wantNoTable(t, "first "+toldAtom(a)+", and then the true one", append([]api.Atom{a}, plain()...))
	}
}

func TestA1Twice(t *testing.T) {
	wantNoAtom(t, "the true one twice", trueOne())
	for _, a := range unlike() {
		wantErr(t, "Check", atoms.Check(table(a)), api.OK)
		wantNoTable(t, "twice "+toldAtom(a), table(a, a))
		wantNoTable(t, "twice, with another one between", table(a, most("77", "1", 7), a))
	}
	all := table(unlike()...)
	for i := range all {
		wantErr(t, "Check of all, and one of them", atoms.Check(append(all[:len(all):len(all)], all[i])), api.ErrAtom)
	}
}

func TestA1NamesWithMore(t *testing.T) {
	for _, c := range []struct {
		what string
		a    api.Atom
	}{
		{"a Name beside a Form", api.Atom{Name: "a", Form: form("1", 0), Bound: num("0")}},
		{"a Name beside a Form that falls away", api.Atom{Name: "a", Form: form("0", 0), Bound: num("0")}},
		{"a Name beside a Bound above 0", api.Atom{Name: "a", Bound: num("1")}},
		{"a Name beside a Bound below 0", api.Atom{Name: "a", Bound: num("-1/2")}},
		{"a Name beside a Bound without a Den", api.Atom{Name: "a"}},
		{"a Name beside a Bound that is 0 and below it", api.Atom{Name: "a", Bound: raw(true, nil, api.Nat{1})}},
		{"a Name beside a Bound of 0 limbs", api.Atom{Name: "a", Bound: raw(false, api.Nat{0, 0}, api.Nat{1})}},
		{"a Name beside a Bound of 0 divided by 2", api.Atom{Name: "a", Bound: raw(false, nil, api.Nat{2})}},
		{"a Name beside Strict", api.Atom{Name: "a", Bound: num("0"), Strict: true}},
	} {
		wantNoAtom(t, c.what, c.a)
	}
}

func TestA1NoNameAndNoForm(t *testing.T) {
	wantNoAtom(t, "0 < 0", under("0"))
	wantNoAtom(t, "0 <= 1", most("1"))
	wantNoAtom(t, "0 <= -1", most("-1"))
	wantNoAtom(t, "0 < 1/2", under("1/2"))
	wantNoAtom(t, "nothing at all", api.Atom{})
	wantNoAtom(t, "Strict alone", api.Atom{Strict: true})
}

func TestA1Forms(t *testing.T) {
	one, two := api.Nat{1}, api.Nat{2}
	of := func(v int, c api.Rat) api.Mono { return api.Mono{Var: v, Coef: c} }
	for _, c := range []struct {
		what string
		f    api.Form
	}{
		{"falling variables", form("1", 1, "1", 0)},
		{"falling variables behind others", form("1", 1, "1", 2, "1", 5, "1", 4)},
		{"one variable twice", form("1", 1, "1", 1)},
		{"one variable twice, behind others", form("1", 0, "1", 1, "2", 1)},
		{"a variable below 0 behind", form("1", 0, "1", -1)},
		{"a coefficient of 0 alone", form("0", 0)},
		{"a coefficient of 0 ahead", form("0", 0, "1", 1)},
		{"a coefficient of 0 behind", form("1", 0, "0", 1)},
		{"a coefficient without a Den", api.Form{of(0, raw(false, one, nil))}},
		{"a coefficient without a Den behind", api.Form{of(0, num("1")), of(1, raw(false, one, api.Nat{0}))}},
		{"a nought behind the limbs", api.Form{of(0, raw(false, api.Nat{1, 0}, one))}},
		{"a nought behind the limbs of a Den", api.Form{of(0, raw(false, one, api.Nat{1, 0}))}},
		{"a nought behind limbs of the second one", api.Form{of(0, num("1")), of(1, raw(true, api.Nat{1, 0}, one))}},
		{"not in lowest terms", api.Form{of(0, raw(false, two, two))}},
		{"not whole", form("1/2", 0)},
		{"not whole, behind", form("1", 0, "3/2", 1)},
		{"not whole, ahead", form("3/2", 0, "1", 1)},
		{"not coprime, one part", form("2", 0)},
		{"not coprime, two parts", form("2", 0, "4", 1)},
		{"not coprime, one below 0", form("2", 0, "-6", 1)},
		{"not coprime, three parts", form("6", 0, "10", 1, "-16", 2)},
		{"not coprime, two limbs", form("4294967296", 0, "6", 1)},
		{"not coprime, three limbs", form("18446744073709551616", 0, "6", 1)},
		{"not coprime, three limbs behind", form("6", 0, "-18446744073709551616", 1)},
		{"not coprime, all of three limbs", form("36893488147419103236", 0, "55340232221128654854", 1)},
		{"not coprime, one of three limbs alone", form("18446744073709551616", 0)},
		{"the first one below 0", form("-1", 0)},
		{"the first one below 0, another one above", form("-1", 0, "1", 1)},
		{"the first one below 0, three limbs", form("-18446744073709551616", 0, "1", 1)},
	} {
		for _, at := range []string{"0", "3/2", "-7"} {
			wantNoAtom(t, c.what, api.Atom{Form: c.f, Bound: num(at)})
			wantNoAtom(t, c.what, api.Atom{Form: c.f, Bound: num(at), Strict: true})
		}
	}
}

func TestA1Bounds(t *testing.T) {
	one, two := api.Nat{1}, api.Nat{2}
	long := api.Nat{full, full, full}
	for _, c := range []struct {
		what string
		at   api.Rat
	}{
		{"no Den", api.Rat{}},
		{"a Den of noughts", raw(false, one, api.Nat{0, 0})},
		{"0 and below it", raw(true, nil, one)},
		{"0 of limbs", raw(false, api.Nat{0}, one)},
		{"0 divided by 2", raw(false, nil, two)},
		{"a nought behind the limbs", raw(false, api.Nat{7, 0}, one)},
		{"a nought behind the limbs, below 0", raw(true, api.Nat{7, 0}, two)},
		{"a nought behind the limbs of the Den", raw(false, api.Nat{7}, api.Nat{2, 0})},
		{"a nought behind the limb 1 of the Den", raw(false, api.Nat{7}, api.Nat{1, 0})},
		{"not in lowest terms", raw(false, api.Nat{4}, two)},
		{"not in lowest terms, 1", raw(false, two, two)},
		{"not in lowest terms, below 0", raw(true, api.Nat{6}, api.Nat{4})},
		{"not in lowest terms, two limbs", raw(false, api.Nat{0, 1}, api.Nat{6})},
		{"not in lowest terms, a Den of two limbs", raw(true, api.Nat{6}, api.Nat{0, 1})},
		{"not in lowest terms, three limbs", raw(false, api.Nat{0, 0, 1}, api.Nat{6})},
		{"not in lowest terms, a Den of three limbs", raw(false, api.Nat{6}, api.Nat{0, 0, 1})},
		{"not in lowest terms, three limbs each", raw(false, api.Nat{3, 3, 3}, long)},
		{"not in lowest terms, all the same", raw(true, long, long)},
	} {
		wantNoAtom(t, c.what, api.Atom{Form: form("1", 0), Bound: c.at})
		wantNoAtom(t, c.what, api.Atom{Form: form("2", 0, "-3", 1), Bound: c.at, Strict: true})
	}
}

// mayBe is the chapter's words: what tables may be, worked out by math/big.
func mayBe(l []api.Atom) bool {
	if len(l) == 0 || len(l) > api.MaxTerms {
		return false
	}
	seen := map[string]int{}
	for i, a := range l {
		isBare := len(a.Form) == 0 && toldRat(a.Bound) == toldRat(num("0")) && !a.Strict
		isTrue, isName := isBare && a.Name == "", isBare && a.Name != ""
		if isTrue != (i == 0) || !isTrue && !isName && !isInequality(a) {
			return false
		}
		seen[toldAtom(a)]++
	}
	return len(seen) == len(l)
}

func isInequality(a api.Atom) bool {
	p, _ := shapeOf(lineOf(api.Affine{Form: a.Form}).coefs)
	return a.Name == "" && len(a.Form) > 0 && toldForm(a.Form) == toldForm(p) && toldRat(a.Bound) == toldRat(of(ratIn(a.Bound)))
}

// oddAtom has in each place something that may be, and now and then something that may not.
func oddAtom(r *rand.Rand) api.Atom {
	a := smallAtom(r)
	switch r.Intn(12) {
	case 0:
		a.Name = []string{"", "p", "q"}[r.Intn(3)]
	case 1:
		a.Strict = !a.Strict
	case 2:
		a.Bound = someRat(r)
	case 3:
		a.Form = someForm(r)
	case 4:
		a.Form = append(a.Form, api.Mono{Var: r.Intn(4), Coef: smallRat(r)})
	}
	return a
}

func TestA1Drawn(t *testing.T) {
	r := rand.New(rand.NewSource(1))
	good := 0
	for range 30000 {
		l := table()
		for range r.Intn(6) {
			l = append(l, oddAtom(r))
		}
		if r.Intn(8) == 0 {
			l[r.Intn(len(l))] = oddAtom(r)
		}
		want := api.ErrAtom
		if mayBe(l) {
			want = api.OK
			good++
		}
		wantErr(t, "Check of "+told(l), atoms.Check(l), want)
	}
	if good < 3000 || good > 27000 {
		t.Fatalf("%d tables that may be", good)
	}
}

// long is a table of so many atoms: names, and inequalities of one form and of others.
func long(size int) []api.Atom {
	l := table()
	for i := len(l); i < size; i++ {
		switch i % 4 {
		case 0:
			l = append(l, named(fmt.Sprint("c", i)))
		case 1:
			l = append(l, most(fmt.Sprint(i), "1", 0))
		case 2:
			l = append(l, under(fmt.Sprint(i), "1", 0))
		default:
			l = append(l, api.Atom{Form: api.Form{{Var: i, Coef: num("2")}, {Var: i + 1, Coef: num("3")}}, Bound: num("1/2")})
		}
	}
	return l
}

func TestA1Longest(t *testing.T) {
	l := long(api.MaxTerms + 1)
	wantErr(t, "Check of MaxTerms atoms", atoms.Check(l[:api.MaxTerms]), api.OK)
	wantNoTable(t, "one more than MaxTerms", l)
	twice := slices.Clone(l[:api.MaxTerms])
	twice[api.MaxTerms-1] = twice[1]
	wantErr(t, "Check of MaxTerms atoms, the last one like the second", atoms.Check(twice), api.ErrAtom)
}

// Forms and bounds of long numbers are looked at once each, however many atoms have them; one that may not be is seen among others all the same.
func TestA1LongNumbersInManyAtoms(t *testing.T) {
	long := func(seed int64) *big.Int { // odd, of 3000 limbs
		n := new(big.Int).Rand(rand.New(rand.NewSource(seed)), new(big.Int).Lsh(big.NewInt(1), 96000))
		return n.SetBit(n, 0, 1)
	}
	whole := func(n *big.Int) api.Rat { return of(new(big.Rat).SetInt(n)) }
	first, second := long(1), long(2)
	shape := api.Form{{Var: 0, Coef: whole(first)}, {Var: 1, Coef: whole(second)}}
	l, at := table(), of(new(big.Rat).SetFrac(first, second))
	for i := range 3000 {
		l = append(l, api.Atom{Form: shape, Bound: num(fmt.Sprint(i))}, api.Atom{Form: form("1", i), Bound: at})
	}
	wantErr(t, "Check", atoms.Check(l), api.OK)
	three := big.NewInt(3)
	common := api.Form{{Var: 0, Coef: whole(new(big.Int).Mul(first, three))}, {Var: 1, Coef: whole(new(big.Int).Mul(second, three))}}
	wantErr(t, "Check with a divisor", atoms.Check(append(slices.Clone(l), api.Atom{Form: common, Bound: num("1")})), api.ErrAtom)
	above := raw(false, limbs(new(big.Int).Mul(first, three)), limbs(new(big.Int).Mul(second, three)))
	wantErr(t, "Check with a bound that is not normal", atoms.Check(append(slices.Clone(l), api.Atom{Form: form("2", 0, "1", 1), Bound: above})), api.ErrAtom)
	wantErr(t, "Check with one twice", atoms.Check(append(slices.Clone(l), l[2000])), api.ErrAtom)
}
