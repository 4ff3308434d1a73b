package simplex_test

import (
	"fmt"
	"math/big"
	"math/rand"
	"testing"

	"fulcrum/api"
	"fulcrum/simplex"
)

func wantModel(t *testing.T, s *simplex.Simplex, want ...string) {
	t.Helper()
	l, e := s.Model()
	wantErr(t, "Model", e, api.OK)
	wantInt(t, "Model", len(l), len(want))
	for v, n := range want {
		if ratIn(l[v]).Cmp(bigNum(n)) != 0 || !isNormal(l[v]) {
			t.Fatalf("Model of %d: %+v, not %s", v, l[v], n)
		}
	}
}

func wantOpen(t *testing.T, s *simplex.Simplex) {
	t.Helper()
	l, e := s.Model()
	wantErr(t, "Model", e, api.ErrOpen)
	wantInt(t, "numbers beside an error", len(l), 0)
}

func TestS7Open(t *testing.T) {
	s := first(t)
	wantModel(t, s, "0", "0", "0", "0")
	s.Push()
	lift(t, s, 2, pair("0", "1/9"), 1) // low by the delta's part alone
	wantOpen(t, s)
	wantErr(t, "Back", s.Back(0), api.OK)
	wantModel(t, s, "0", "0", "0", "0")
	press(t, s, 3, plain("-1"), 2) // high
	wantOpen(t, s)
	check(t, s)
	wantModel(t, s, "-1", "0", "-1", "-1")
	s.Push()
	press(t, s, 1, plain("0"), 3)
	lift(t, s, 2, plain("0"), 4)
	_, e := s.Check()
	wantErr(t, "Check", e, api.ErrClash)
	wantOpen(t, s)
	wantErr(t, "Back", s.Back(0), api.OK)
	check(t, s)
	_, e = s.Model()
	wantErr(t, "Model", e, api.OK)
}

// Where no variable is low or high there is no need of a Check.
func TestS7WithoutACheck(t *testing.T) {
	s := first(t)
	lift(t, s, 0, plain("2"), 1)
	press(t, s, 2, plain("2"), 2)
	wantModel(t, s, "2", "0", "2", "2")
}

func TestS7Amounts(t *testing.T) {
	for _, c := range []struct {
		lower, upper api.Delta
		want         string
	}{
		{pair("1", "1"), pair("2", "-1"), "3/2"},
		{pair("1", "1"), pair("1001/1000", "-1"), "2001/2000"},
		{pair("1", "1"), pair("1000000000000000000001/1000000000000000000000", "-7"), "8000000000000000000001/8000000000000000000000"},
		{pair("1", "1"), plain("9"), "2"},
		{pair("1", "1/3"), plain("9"), "4/3"},
		{pair("1", "5"), pair("2", "5"), "6"},
		{pair("1", "1"), pair("1", "1"), "2"},
		{plain("1"), pair("3/2", "-1"), "1"},
		{plain("1"), plain("1"), "1"},
		// of these only the values keep their bounds
		{pair("1", "-1"), plain("9"), "0"},
		{pair("1", "-1"), pair("1", "1"), "0"},
		{pair("1", "-5"), plain("9"), "-4"},
	} {
		s := started(t, 1)
		lift(t, s, 0, c.lower, 1)
		press(t, s, 0, c.upper, 2)
		wantModel(t, s, c.want)
	}
	for _, c := range []struct {
		upper api.Delta
		want  string
	}{{pair("-1", "-1"), "-2"}, {pair("-1", "1"), "0"}, {pair("-1", "1/2"), "-1/2"}, {plain("-1"), "-1"}} {
		s := started(t, 1)
		press(t, s, 0, c.upper, 1)
		wantModel(t, s, c.want)
	}
}

// The amount is the least of all variables' gaps, those of basic ones too, and of both sides.
func TestS7OneAmountForAll(t *testing.T) {
	s := first(t)
	lift(t, s, 0, pair("1", "1"), 1)
	wantModel(t, s, "2", "0", "2", "2")
	press(t, s, 2, pair("3/2", "-1"), 2) // 1 + d up to 3/2 - d: 1/4
	wantModel(t, s, "5/4", "0", "5/4", "5/4")
	lift(t, s, 3, pair("3/4", "4"), 3) // 3/4 + 4 d up to 1 + d: 1/12
	wantModel(t, s, "13/12", "0", "13/12", "13/12")
	press(t, s, 1, pair("1/100", "-1"), 4) // 0 up to 1/100 - d: 1/100
	wantModel(t, s, "101/100", "0", "101/100", "101/100")
	lift(t, s, 1, pair("-1/1000", "1"), 5) // -1/1000 + d up to 0: 1/1000
	wantModel(t, s, "1001/1000", "0", "1001/1000", "1001/1000")
}

// S9 of Model: its numbers keep all rows, and bounds as strict as they are.
func TestS9ModelsNumbers(t *testing.T) {
	r := rand.New(rand.NewSource(97))
	strict := 0
	for range 500 {
		s, m := system(t, r)
		bounded(t, r, s, m, r.Intn(2*len(m.roots)), 0)
		if wantCheck(t, s, m) != api.OK {
			continue
		}
		l, e := s.Model()
		wantErr(t, "Model", e, api.OK)
		var numbers []*big.Rat
		for _, n := range l {
			numbers = append(numbers, ratIn(n))
		}
		for v, n := range numbers {
			want := new(big.Rat)
			for w, c := range m.roots[v] {
				want.Add(want, product(c, numbers[w]))
			}
			if n.Cmp(want) != 0 {
				t.Fatalf("the number of %d is %v, not %v", v, n, want)
			}
			strict += wantKept(t, fmt.Sprint("the lower bound of ", v), m.lower(v), n, 1)
			strict += wantKept(t, fmt.Sprint("the upper bound of ", v), m.upper(v), n, -1)
		}
	}
	if strict < 100 {
		t.Fatal("so few strict bounds", strict)
	}
}

// wantKept: by its sign a bound is a lower one (1) or an upper one; it tells 1 of a strict one.
func wantKept(t *testing.T, what string, b *known, n *big.Rat, sign int) int {
	t.Helper()
	if b == nil || b.at[1].Sign()*sign < 0 {
		return 0
	}
	beyond := n.Cmp(b.at[0]) * sign
	if beyond < 0 || beyond == 0 && b.at[1].Sign() != 0 {
		t.Fatalf("%s: %v is not kept by %v", what, b.at, n)
	}
	return b.at[1].Sign() * sign
}
