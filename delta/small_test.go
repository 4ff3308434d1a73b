package delta_test

import (
	"math/big"
	"math/rand"
	"testing"

	"fulcrum/api"
	"fulcrum/delta"
)

func one() *big.Rat { return big.NewRat(1, 1) }

func wantSmall(t *testing.T, l []api.Gap, want string) {
	t.Helper()
	e, code := delta.Small(l)
	wantErr(t, "Small", code, api.OK)
	wantRat(t, "Small", e, bigNum(want))
}

// wantNoSmall asks for ErrGap, and for nothing beside it.
func wantNoSmall(t *testing.T, l []api.Gap) {
	t.Helper()
	e, code := delta.Small(l)
	wantErr(t, "Small", code, api.ErrGap)
	if !isZero(e) {
		t.Fatalf("Small: %v beside an error", e)
	}
}

// gap has the ends a0 + b0 d and a1 + b1 d.
func gap(a0, b0, a1, b1 string) api.Gap {
	return api.Gap{Lo: number(a0, b0), Hi: number(a1, b1)}
}

// staysGap: at that amount its Lo is at most its Hi.
func staysGap(g api.Gap, amount *big.Rat) bool {
	return in(g.Lo).at(amount).Cmp(in(g.Hi).at(amount)) <= 0
}

// wantGreatest holds an answer against D3's own words. How far Hi is above Lo is a straight line over the amounts: if it is not below 0 at 0 and at e, it is not between; and if it is 0 at e and below 0 at 1, it is below 0 at all amounts above e.
func wantGreatest(t *testing.T, l []api.Gap, e *big.Rat) {
	t.Helper()
	met := e.Cmp(one()) == 0
	for _, g := range l {
		for _, part := range []string{"0", "1/7", "1/2", "1"} {
			if amount := product(e, bigNum(part)); !staysGap(g, amount) {
				t.Fatalf("%v is no gap at %v", g, amount)
			}
		}
		shut := in(g.Lo).at(e).Cmp(in(g.Hi).at(e)) == 0
		met = met || shut && !staysGap(g, one())
	}
	if !met || e.Sign() <= 0 || e.Cmp(one()) > 0 {
		t.Fatalf("Small of %v: %v is not the greatest", l, e)
	}
}

// wantRight holds Small against the words, and against the remark in brackets, worked out by math/big.
func wantRight(t *testing.T, l []api.Gap) {
	t.Helper()
	least := one()
	for _, g := range l {
		lo, hi := in(g.Lo), in(g.Hi)
		if lo.cmp(hi) > 0 {
			wantNoSmall(t, l)
			return
		}
		if lo.a.Cmp(hi.a) < 0 && lo.b.Cmp(hi.b) > 0 {
			if e := quotient(less(hi.a, lo.a), less(lo.b, hi.b)); e.Cmp(least) < 0 {
				least = e
			}
		}
	}
	e, code := delta.Small(l)
	wantErr(t, "Small", code, api.OK)
	wantRat(t, "Small", e, least)
	wantGreatest(t, l, ratIn(e))
}

func TestD3NoGaps(t *testing.T) {
	wantSmall(t, nil, "1")
	wantSmall(t, []api.Gap{}, "1")
	wantSmall(t, make([]api.Gap, 5), "1")
}

func TestD3OneGap(t *testing.T) {
	for _, c := range []struct {
		g    api.Gap
		want string
	}{
		{gap("2", "1", "2", "1"), "1"},      // its Lo is its Hi
		{gap("2", "-1", "2", "1"), "1"},     // the A are the same, the B are not
		{gap("-2", "-7", "-2", "-6"), "1"},  // and below 0
		{gap("0", "0", "0", "1/1000"), "1"}, //
		{gap("0", "1", "1", "1"), "1"},      // the B are the same
		{gap("0", "-1", "1/9", "5"), "1"},   // it widens
		{gap("0", "1/2", "1", "0"), "1"},    // it is shut at 2
		{gap("0", "1", "1", "0"), "1"},      // at just 1
		{gap("-3", "1", "-2", "0"), "1"},    //
		{gap("0", "1001", "1000", "0"), "1000/1001"},
		{gap("0", "1000", "1001", "0"), "1"},
		{gap("0", "3", "1", "0"), "1/3"},
		{gap("-1/2", "0", "-1/3", "-1"), "1/6"},
		{gap("-1", "2", "1", "-2"), "1/2"},
		{gap("0", "1000000000000000000000", "1/1000000000000000000000", "0"), "1/1000000000000000000000000000000000000000000"},
	} {
		wantSmall(t, []api.Gap{c.g}, c.want)
		wantRight(t, []api.Gap{c.g})
		wantRight(t, []api.Gap{{Lo: c.g.Hi, Hi: c.g.Lo}})
	}
}

// Several tell an amount below 1, just 1 and above 1; the least one stands at each place.
func TestD3TheLeastOfSeveral(t *testing.T) {
	l := []api.Gap{
		gap("0", "1/2", "1", "0"), gap("0", "1", "1", "0"), gap("0", "3", "1", "0"), gap("5", "0", "6", "-7/2"), gap("0", "4", "1", "0"), gap("2", "1", "2", "1"), gap("-9", "0", "-7", "-3"),
	}
	for shift := range l {
		wantSmall(t, append(l[shift:len(l):len(l)], l[:shift]...), "1/4")
	}
	wantSmall(t, l[:2], "1")
	wantSmall(t, append(l[:2:2], l[5:]...), "2/3")
	wantSmall(t, l[2:4], "2/7")
	wantSmall(t, append(l[4:5:5], l[4]), "1/4")
}

// A gap whose Lo is above its Hi, in its A or in its B alone, at each place.
func TestD3NoGapAtEachPlace(t *testing.T) {
	good := []api.Gap{gap("0", "3", "1", "0"), gap("0", "0", "1", "1"), gap("2", "1", "2", "1"), gap("0", "4", "1", "0")}
	for _, bad := range []api.Gap{gap("3", "0", "3", "-1"), gap("-3", "1/2", "-3", "1/3"), gap("0", "1", "0", "0"), gap("2", "0", "1", "0"), gap("2", "-9", "1", "9"), gap("-1", "0", "-2", "5")} {
		wantNoSmall(t, []api.Gap{bad})
		wantNoSmall(t, []api.Gap{bad, bad})
		for place := range len(good) + 1 {
			l := append(append(good[:place:place], bad), good[place:]...)
			wantNoSmall(t, l)
		}
	}
	wantSmall(t, good, "1/4")
}

// How the parts are written counts for nothing.
func TestD3PartsAreReadAsTheyAre(t *testing.T) {
	wantSmall(t, []api.Gap{{Lo: api.Delta{A: num("2"), B: otherwise(num("3"))}, Hi: api.Delta{A: otherwise(num("5/2"))}}}, "1/6")
	for _, a := range zeros() {
		for _, b := range zeros() {
			wantSmall(t, []api.Gap{{Lo: api.Delta{A: a, B: b}, Hi: api.Delta{A: b, B: a}}}, "1")
			wantSmall(t, []api.Gap{{Lo: api.Delta{A: a, B: num("3")}, Hi: api.Delta{A: otherwise(num("1/2")), B: b}}}, "1/6")
			wantNoSmall(t, []api.Gap{{Lo: api.Delta{A: a, B: otherwise(num("3"))}, Hi: api.Delta{A: b, B: num("2")}}})
		}
	}
}

func TestD3EachPair(t *testing.T) {
	eachPair(func(a, b api.Delta) { wantRight(t, []api.Gap{{Lo: a, Hi: b}}) })
}

// rightWay is the two as a gap, the lower one as its Lo.
func rightWay(a, b api.Delta) api.Gap {
	if in(a).cmp(in(b)) > 0 {
		a, b = b, a
	}
	return api.Gap{Lo: a, Hi: b}
}

func TestD3Lists(t *testing.T) {
	r := rand.New(rand.NewSource(4))
	for i := range 600 {
		var l []api.Gap
		for range r.Intn(12) {
			a, b := someNumber(r), someNumber(r)
			if r.Intn(3) == 0 {
				b.A = otherwise(a.A)
			}
			l = append(l, rightWay(a, b))
		}
		if len(l) > 0 && i%5 == 0 {
			l[r.Intn(len(l))] = api.Gap{Lo: someNumber(r), Hi: someNumber(r)}
		}
		wantRight(t, l)
	}
}

func TestD3LongListsOfLongNumbers(t *testing.T) {
	r := rand.New(rand.NewSource(5))
	var l []api.Gap
	for range 4000 {
		l = append(l, rightWay(someNumber(r), someNumber(r)))
	}
	wantRight(t, l)
	l[len(l)-1].Lo, l[len(l)-1].Hi = number("1", "1"), number("1", "0")
	wantNoSmall(t, l)
	long := func() api.Rat { return api.Rat{Num: api.Int{Abs: someNat(r, 200)}, Den: append(someNat(r, 200), 1)} }
	for range 20 {
		wantRight(t, []api.Gap{rightWay(api.Delta{A: long(), B: long()}, api.Delta{A: long(), B: long()}), gap("0", "3", "1", "0")})
	}
}
