package atoms_test

import (
	"math"
	"math/rand"
	"testing"

	"fulcrum/api"
	"fulcrum/atoms"
)

// noughts are forms without a part, and forms whose parts fall away.
func noughts() []api.Form {
	return []api.Form{
		nil, {}, form("0", 0), form("0", 0, "0", -3, "0", 0), form("1", 4, "-1", 4), form("1/2", 1, "1/3", 2, "-1/2", 1, "-1/3", 2), form("1", math.MaxInt, "-2", math.MaxInt, "1", math.MaxInt),
		{{Var: 3}}, {{Var: 3, Coef: raw(true, api.Nat{7}, nil)}, {Var: 1, Coef: raw(false, api.Nat{7}, api.Nat{0})}},
		{{Var: 3, Coef: raw(false, api.Nat{6}, api.Nat{4})}, {Var: 3, Coef: raw(true, api.Nat{3, 0}, api.Nat{2})}},
	}
}

func TestA3NoParts(t *testing.T) {
	for _, f := range noughts() {
		for _, c := range []struct {
			at          api.Rat
			most, under int
		}{
			{num("0"), 1, -1}, {num("-1"), 1, 1}, {num("1"), -1, -1}, {num("-1/99999999999999999999"), 1, 1}, {num("1/99999999999999999999"), -1, -1},
			{api.Rat{}, 1, -1}, {raw(true, nil, api.Nat{1}), 1, -1}, {raw(false, api.Nat{5}, nil), 1, -1}, {raw(true, api.Nat{5}, api.Nat{0}), 1, -1}, {raw(true, api.Nat{0, 0}, api.Nat{3}), 1, -1},
			{raw(true, api.Nat{2, 0}, api.Nat{4}), 1, 1}, {raw(false, api.Nat{2, 0}, api.Nat{4}), -1, -1},
		} {
			for _, l := range [][]api.Atom{table(), plain()} {
				wantBelow(t, l, api.Affine{Form: f, Const: c.at}, false, c.most, l)
				wantBelow(t, l, api.Affine{Form: f, Const: c.at}, true, c.under, l)
			}
		}
	}
}

func TestA3Atoms(t *testing.T) {
	for _, c := range []struct {
		f      api.Affine
		strict bool
		lit    int
		want   api.Atom
	}{
		{affine("0", "1", 0), false, 2, most("0", "1", 0)},
		{affine("0", "1", 0), true, 2, under("0", "1", 0)},
		{affine("0", "-1", 0), false, -2, under("0", "1", 0)},
		{affine("0", "-1", 0), true, -2, most("0", "1", 0)},
		{affine("3", "1", 0), false, 2, most("-3", "1", 0)},
		{affine("3", "-1", 0), false, -2, under("3", "1", 0)},
		{affine("-3", "-1", 0), true, -2, most("-3", "1", 0)},
		{affine("-3", "2", 5), true, 2, under("3/2", "1", 5)},
		{affine("1/3", "-2/3", 5), false, -2, under("1/2", "1", 5)},
		{affine("7", "2", 0, "-3", 1), false, 2, most("-7", "2", 0, "-3", 1)},
		{affine("7", "-2", 0, "3", 1), false, -2, under("7", "2", 0, "-3", 1)},
		{affine("7", "3", 1, "-2", 0), true, -2, most("7", "2", 0, "-3", 1)},
		{affine("1", "4", 0, "6", 1), false, 2, most("-1/2", "2", 0, "3", 1)},
		{affine("1", "1/4", 0, "1/6", 1), false, 2, most("-12", "3", 0, "2", 1)},
		{affine("1", "1", 2, "1", 1, "1", 2, "1", -7), false, 2, most("-1", "1", -7, "1", 1, "2", 2)},
		{affine("1", "1", 0, "-1", 0, "-2", 1), false, -2, under("1/2", "1", 1)},
		{affine("1", "1", math.MaxInt, "-3", math.MinInt), false, -2, under("1", "3", math.MinInt, "-1", math.MaxInt)},
		{affine("18446744073709551616", "-18446744073709551616", 0, "36893488147419103232", 1), true, -2, most("1", "1", 0, "-2", 1)},
		{affine("1/18446744073709551617", "2/18446744073709551617", 0), true, 2, under("-1/2", "1", 0)},
		{api.Affine{Form: form("1", 0), Const: raw(true, api.Nat{7}, nil)}, true, 2, under("0", "1", 0)},
		{api.Affine{Form: api.Form{{Var: 1, Coef: raw(false, api.Nat{7}, nil)}, {Var: 0, Coef: raw(true, api.Nat{4, 0}, api.Nat{2})}}, Const: raw(true, api.Nat{6}, api.Nat{4, 0})}, false, -2, under("-3/4", "1", 0)},
	} {
		l := wantBelow(t, table(), c.f, c.strict, c.lit, table(c.want))
		wantBelow(t, l, c.f, c.strict, c.lit, l)
		wantErr(t, "Check of the table with it", atoms.Check(l), api.OK)
		lit := c.lit - 6
		if c.lit > 0 {
			lit = c.lit + 6
		}
		wantBelow(t, append(plain(), c.want), c.f, c.strict, lit, append(plain(), c.want))
	}
}

// What is there is found again, in each place of a table, with both signs.
func TestA3AtomsThatAreThere(t *testing.T) {
	l := table(unlike()...)
	for i, a := range l {
		if len(a.Form) == 0 {
			continue
		}
		f := api.Affine{Form: a.Form, Const: turned(a.Bound)}
		wantBelow(t, l, f, a.Strict, i+1, l)
		wantBelow(t, l, times(num("-1"), f), !a.Strict, -i-1, l)
		wantBelow(t, l, times(num("7/3"), f), a.Strict, i+1, l)
	}
}

func TestA3Multiples(t *testing.T) {
	f := affine("5/6", "1/2", 3, "-2/3", 1)
	atom, other := most("5", "4", 1, "-3", 3), under("5", "4", 1, "-3", 3)
	for _, c := range []string{"1", "6", "1/7", "12/5", "18446744073709551616", "1/18446744073709551616"} {
		l := wantBelow(t, table(), times(num(c), f), true, -2, table(atom))
		l = wantBelow(t, l, times(num("-"+c), f), false, 2, table(atom))
		l = wantBelow(t, l, times(num(c), f), false, -3, table(atom, other))
		wantBelow(t, l, times(num("-"+c), f), true, 3, table(atom, other))
	}
}

func TestA3Drawn(t *testing.T) {
	r := rand.New(rand.NewSource(3))
	there, fresh := 0, 0
	for i := range 6000 {
		l, f, strict := someTable(r), someAffine(r), r.Intn(2) == 0
		switch a := l[r.Intn(len(l))]; i % 3 {
		case 0:
			f = times(turned(aboveNought(r)), smallAffine(r))
		case 1:
			f = times(someRat(r), api.Affine{Form: a.Form, Const: turned(a.Bound)})
		}
		want, lit := belowOf(l, f, strict)
		wantBelow(t, l, f, strict, lit, want)
		switch {
		case len(want) > len(l):
			fresh++
		case lit != 1 && lit != -1:
			there++
		}
	}
	if there < 300 || fresh < 300 {
		t.Fatalf("%d atoms that were there, %d new ones", there, fresh)
	}
}

// sameTables holds long tables against each other.
func sameTables(l, m []api.Atom) bool {
	if len(l) != len(m) {
		return false
	}
	for i := range l {
		if !sameAtoms(l[i], m[i]) {
			return false
		}
	}
	return true
}

func sameAtoms(a, b api.Atom) bool {
	if a.Name != b.Name || a.Strict != b.Strict || len(a.Form) != len(b.Form) || !sameRats(a.Bound, b.Bound) {
		return false
	}
	for i := range a.Form {
		if a.Form[i].Var != b.Form[i].Var || !sameRats(a.Form[i].Coef, b.Form[i].Coef) {
			return false
		}
	}
	return true
}

func sameRats(a, b api.Rat) bool {
	return toldRat(a) == toldRat(b)
}

// A table of MaxTerms atoms has no room for a new one; what is there, and what hangs on no values, has a literal all the same.
func TestA2A3FullTable(t *testing.T) {
	l := long(api.MaxTerms)
	last := len(l) - 1 // 2 x + 3 y <= 1/2, with their own variables
	wantNoName(t, "full", l, "new", api.ErrFull)
	wantNoName(t, "full, and empty", l, "", api.ErrArg)
	wantNotBelow(t, "full", l, affine("0", "1", 0), false, api.ErrFull)
	wantNotBelow(t, "full, strict", l, affine("0", "-1", 0), true, api.ErrFull)
	wantNotBelow(t, "full, the other relation", l, affine("-1", "1", 0), true, api.ErrFull)
	for _, c := range []struct {
		what   string
		f      api.Affine
		strict bool
		want   int
	}{
		{"true", affine("-1"), true, 1}, {"false", affine("0", "1", 0, "-1", 0), true, -1}, {"the second atom", affine("-1", "1", 0), false, 2}, {"its opposite", affine("1/2", "-1/2", 0), true, -2},
		{"the last atom", affine("-1", "4", last, "6", last+1), false, last + 1}, {"its opposite", affine("1/2", "-2", last, "-3", last+1), true, -last - 1},
	} {
		got, lit, e := atoms.Below(l, c.f, c.strict)
		wantErr(t, c.what, e, api.OK)
		wantInt(t, c.what, lit, c.want)
		wantTruth(t, "the table, "+c.what, sameTables(got, l), true)
	}
	got, lit, e := atoms.Name(l, "c4")
	wantErr(t, "Name of c4", e, api.OK)
	wantInt(t, "Name of c4", lit, 5)
	wantTruth(t, "the table", sameTables(got, l), true)
	wantLitText(t, l, len(l), "2*x262143+3*x262144 <= 1/2")
	wantNoText(t, "of a full table", l, -len(l)-1)
}

// One less than MaxTerms: there is room for one.
func TestA2A3OneMore(t *testing.T) {
	l := long(api.MaxTerms - 1)
	got, lit, e := atoms.Name(l, "new")
	wantErr(t, "Name", e, api.OK)
	wantInt(t, "Name", lit, api.MaxTerms)
	wantTruth(t, "the table", sameTables(got, append(l[:len(l):len(l)], named("new"))), true)
	got, lit, e = atoms.Below(l, affine("1", "-2", 0), false)
	wantErr(t, "Below", e, api.OK)
	wantInt(t, "Below", lit, -api.MaxTerms)
	wantTruth(t, "the table", sameTables(got, append(l[:len(l):len(l)], under("1/2", "1", 0))), true)
	wantErr(t, "Check", atoms.Check(got), api.OK)
}
