package nat_test

import (
	"fmt"
	"math"
	"slices"
	"strings"
	"sync"
	"testing"

	"fulcrum/api"
	"fulcrum/nat"
)

// called is one of the layer's calls: what it answers as lists, and all that it answers as a text.
type called struct {
	name string
	do   func(a, b api.Nat) ([]api.Nat, string)
}

// one is the answer of a call that has a list and perhaps an error.
func one(a api.Nat, e api.Errno) ([]api.Nat, string) {
	return []api.Nat{a}, fmt.Sprint([]uint32(a), e)
}

// none is the answer of a call that has no list.
func none(l ...any) ([]api.Nat, string) {
	return nil, fmt.Sprint(l...)
}

func calls() []called {
	l := []called{
		{"Norm", func(a, b api.Nat) ([]api.Nat, string) { return one(nat.Norm(a), api.OK) }},
		{"Of", func(a, b api.Nat) ([]api.Nat, string) { return one(nat.Of(uint64(len(a)+len(b))<<30), api.OK) }},
		{"Small", func(a, b api.Nat) ([]api.Nat, string) { n, ok := nat.Small(a); return none(n, ok) }},
		{"Cmp", func(a, b api.Nat) ([]api.Nat, string) { return none(nat.Cmp(a, b)) }},
		{"Add", func(a, b api.Nat) ([]api.Nat, string) { return one(nat.Add(a, b), api.OK) }},
		{"Sub", func(a, b api.Nat) ([]api.Nat, string) { return one(nat.Sub(a, b)) }},
		{"Mul", func(a, b api.Nat) ([]api.Nat, string) { return one(nat.Mul(a, b), api.OK) }},
		{"Div", func(a, b api.Nat) ([]api.Nat, string) {
			q, r, e := nat.Div(a, b)
			return []api.Nat{q, r}, fmt.Sprint([]uint32(q), []uint32(r), e)
		}},
		{"Gcd", func(a, b api.Nat) ([]api.Nat, string) { return one(nat.Gcd(a, b), api.OK) }},
		{"Bits", func(a, b api.Nat) ([]api.Nat, string) { return none(nat.Bits(a)) }},
		{"Root", func(a, b api.Nat) ([]api.Nat, string) { return one(nat.Root(a), api.OK) }},
	}
	for _, n := range []int{math.MinInt, -api.MaxShift - 1, -100, -32, -1, 0, 1, 2, 16, 17, 32, 40, api.MaxShift + 1, math.MaxInt} {
		l = append(l,
			called{fmt.Sprint("Bit ", n), func(a, b api.Nat) ([]api.Nat, string) { return none(nat.Bit(a, n)) }},
			called{fmt.Sprint("Shift ", n), func(a, b api.Nat) ([]api.Nat, string) { return one(nat.Shift(a, n)) }},
			called{fmt.Sprint("Pow ", n), func(a, b api.Nat) ([]api.Nat, string) { return one(nat.Pow(a, n)) }},
			called{fmt.Sprint("Text ", n), func(a, b api.Nat) ([]api.Nat, string) { s, e := nat.Text(a, n); return none(s, e) }},
			called{fmt.Sprint("Parse ", n), func(a, b api.Nat) ([]api.Nat, string) { return one(nat.Parse(fmt.Sprint(len(a)), n)) }},
		)
	}
	return l
}

func eachCall(do func(c called, a, b api.Nat)) {
	for _, c := range calls() {
		for _, a := range edges() {
			for _, b := range edges() {
				do(c, a, b)
			}
		}
	}
}

// A panic would end the test; so would a call that does not end.
func TestR1NoCallPanics(t *testing.T) {
	eachCall(func(c called, a, b api.Nat) { c.do(a, b) })
	for base := -1; base < 40; base++ {
		for _, s := range []string{"", "\x00", "\xff\xfe", "é", strings.Repeat("z", 1000), strings.Repeat("1", 1000), strings.Repeat("0", 1000)} {
			nat.Parse(s, base)
		}
	}
}

func TestR2NothingBesideAnError(t *testing.T) {
	check := func(what string, e, want api.Errno, l ...api.Nat) {
		wantErr(t, what, e, want)
		for _, x := range l {
			wantNat(t, what, x, nil)
		}
	}
	for _, a := range edges() {
		x, e := nat.Sub(a, nat.Add(a, api.Nat{1}))
		check("Sub", e, api.ErrBelow, x)
		q, r, e := nat.Div(a, api.Nat{0})
		check("Div", e, api.ErrZero, q, r)
		x, e = nat.Shift(a, math.MinInt)
		check("Shift", e, api.ErrShift, x)
		x, e = nat.Pow(a, -1)
		check("Pow", e, api.ErrPower, x)
		s, e := nat.Text(a, 1)
		check("Text"+s, e, api.ErrBase)
		if s != "" {
			t.Errorf("Text beside an error: %q", s)
		}
	}
	x, e := nat.Parse("12x", 10)
	check("Parse", e, api.ErrDigit, x)
	x, e = nat.Parse("12x", 0) // of both errors the one that is named first
	check("Parse", e, api.ErrBase, x)
}

const guard = 0xdeadbeef

// guarded is a as a piece of a longer list, with other limbs ahead of it and in the room behind its end.
func guarded(a api.Nat) (whole, piece api.Nat) {
	whole = append(api.Nat{guard, guard}, a...)
	whole = append(whole, guard, guard, guard, guard)
	return whole, whole[2 : 2+len(a)]
}

func TestR3ArgumentsStayAsTheyAre(t *testing.T) {
	eachCall(func(c called, a, b api.Nat) {
		wholeA, x := guarded(a)
		wholeB, y := guarded(b)
		wasA, wasB := slices.Clone(wholeA), slices.Clone(wholeB)
		c.do(x, y)
		if !same(wholeA, wasA) || !same(wholeB, wasB) {
			t.Fatalf("%s of %x and %x has changed what it was given", c.name, []uint32(a), []uint32(b))
		}
	})
}

// An answer is written over, its spare room too: neither an argument nor another answer may show it.
func TestR3AnswersAreNewMemory(t *testing.T) {
	eachCall(func(c called, a, b api.Nat) {
		wholeA, x := guarded(a)
		wholeB, y := guarded(b)
		wasA, wasB := slices.Clone(wholeA), slices.Clone(wholeB)
		first, told := c.do(x, y)
		second, _ := c.do(x, y)
		for i, l := range first {
			others := append(slices.Clone(first[:i]), first[i+1:]...)
			others = append(others, second...)
			was := fmt.Sprint(others)
			room := l[:cap(l)]
			for j := range room {
				room[j]++
			}
			if fmt.Sprint(others) != was {
				t.Fatalf("%s of %x and %x: two answers share memory", c.name, []uint32(a), []uint32(b))
			}
		}
		if !same(wholeA, wasA) || !same(wholeB, wasB) {
			t.Fatalf("%s of %x and %x: an answer shares memory with an argument", c.name, []uint32(a), []uint32(b))
		}
		if _, again := c.do(x, y); again != told {
			t.Fatalf("%s of %x and %x: an answer that was written over is told again", c.name, []uint32(a), []uint32(b))
		}
	})
}

// One list given twice, and two lists that overlap.
func TestR3SharedArguments(t *testing.T) {
	for _, c := range calls() {
		for _, a := range edges() {
			whole, x := guarded(a)
			was := slices.Clone(whole)
			_, got := c.do(x, x)
			_, want := c.do(slices.Clone(x), slices.Clone(x))
			_, gotPart := c.do(x, x[len(x)/2:])
			_, wantPart := c.do(slices.Clone(x), slices.Clone(x[len(x)/2:]))
			if got != want || gotPart != wantPart || !same(whole, was) {
				t.Fatalf("%s of %x twice", c.name, []uint32(a))
			}
		}
	}
}

func TestR3NilIsTheEmptyList(t *testing.T) {
	for _, c := range calls() {
		for _, b := range edges() {
			_, fromNil := c.do(nil, b)
			_, fromEmpty := c.do(api.Nat{}, b)
			_, backNil := c.do(b, nil)
			_, backEmpty := c.do(b, api.Nat{})
			if fromNil != fromEmpty || backNil != backEmpty {
				t.Fatalf("%s tells nil from the empty list", c.name)
			}
		}
	}
}

// The same call answers the same, whatever was called ahead of it or is called beside it.
func TestR4AnswersHangOnArgumentsAlone(t *testing.T) {
	var l []string
	eachCall(func(c called, a, b api.Nat) {
		_, told := c.do(a, b)
		l = append(l, told)
	})
	var wait sync.WaitGroup
	for range 4 {
		wait.Go(func() {
			i := 0
			eachCall(func(c called, a, b api.Nat) {
				if _, told := c.do(a, b); told != l[i] {
					t.Errorf("%s of %x and %x: %s, then %s", c.name, []uint32(a), []uint32(b), l[i], told)
				}
				i++
			})
		})
	}
	wait.Wait()
}

// The spare room of an argument may be any: it is not read.
func TestR4SpareRoomCountsForNothing(t *testing.T) {
	eachCall(func(c called, a, b api.Nat) {
		_, x := guarded(a)
		_, y := guarded(b)
		_, got := c.do(x, y)
		_, want := c.do(slices.Clip(slices.Clone(a)), slices.Clip(slices.Clone(b)))
		if got != want {
			t.Fatalf("%s of %x and %x hangs on a capacity", c.name, []uint32(a), []uint32(b))
		}
	})
}

// What is the same number, with noughts at its end or without, has the same answers.
func TestNumbersAreReadAsTheyAre(t *testing.T) {
	eachCall(func(c called, a, b api.Nat) {
		if strings.HasPrefix(c.name, "Of") || strings.HasPrefix(c.name, "Parse") { // these are given no list
			return
		}
		_, got := c.do(a, b)
		_, want := c.do(nat.Norm(a), append(nat.Norm(b), 0, 0))
		if got != want {
			t.Fatalf("%s of %x and %x hangs on noughts at an end", c.name, []uint32(a), []uint32(b))
		}
	})
}

func TestAnswersAreNormal(t *testing.T) {
	eachCall(func(c called, a, b api.Nat) {
		l, _ := c.do(a, b)
		for _, x := range l {
			if !isNormal(x) {
				t.Fatalf("%s of %x and %x: %x is not normal", c.name, []uint32(a), []uint32(b), []uint32(x))
			}
		}
	})
}
