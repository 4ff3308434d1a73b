package sexpr_test

import (
	"math/rand"
	"testing"

	"fulcrum/api"
	"fulcrum/sexpr"
)

// wantSame asks both ways round.
func wantSame(t *testing.T, a, b api.Node, want bool) {
	t.Helper()
	if sexpr.Same(a, b) != want || sexpr.Same(b, a) != want {
		t.Fatalf("Same of %.500s and %.500s: not %v", full(a), full(b), want)
	}
}

func TestX3SameOfTokens(t *testing.T) {
	var all []api.Node
	eachToken(func(n api.Node) { all = append(all, n) })
	for i, a := range all {
		for j, b := range all {
			wantSame(t, a, b, i == j)
			wantSame(t, list(a), list(b), i == j)
		}
		wantSame(t, a, list(), false)
		wantSame(t, a, list(a), false)
		wantSame(t, list(a), list(a, a), false)
	}
}

func TestX3SameOfLists(t *testing.T) {
	a, b := symbol("a"), symbol("b")
	all := []api.Node{
		list(), list(list()), list(list(), list()), list(list(list())), list(a), list(b), list(a, b), list(b, a), list(a, a), list(list(a), b), list(a, list(b)), list(list(a, b)), list(list(a), list(b)), list(a, b, list()), list(list(), a, b),
		list(str("a")), list(token(api.TokKeyword, "a")), a, b, str("a"),
	}
	for i := range all {
		for j := range all {
			wantSame(t, all[i], all[j], i == j)
		}
	}
	wantSame(t, api.Node{}, api.Node{Kids: []api.Node{}}, true)
}

// Where they stand does not count, nor does a token's kids nor a list's Text.
func TestX3WhatCountsForNothing(t *testing.T) {
	a, _, _ := sexpr.Read("(x (1 |y|))")
	b, _, _ := sexpr.Read("; c\n  ( |x|\n(1 y ) )")
	wantSame(t, a[0], b[0], true)
	n := symbol("a")
	for _, kids := range [][]api.Node{{list()}, {symbol("|"), n}, {nested(list(), 1<<16-2)}} {
		with := n
		with.Kids = kids
		wantSame(t, n, with, true)
		wantSame(t, list(list(), n), list(list(), with), true)
		wantSame(t, with, list(kids...), false)
		wantNumber(t, "Size", sexpr.Size(with), 1)
		wantNumber(t, "Size", sexpr.Size(list(with, with)), 4)
	}
	with := list(n)
	with.Token.Text, with.Token.Begin, with.Token.End, with.Token.Line, with.Token.Column = "a", 1, 2, 3, 4
	wantSame(t, list(n), with, true)
	wantSame(t, n, with, false)
	wantNumber(t, "Size", sexpr.Size(with), 3)
}

func TestX3AnyNodes(t *testing.T) {
	r := rand.New(rand.NewSource(3))
	same, other := 0, 0
	for range 20000 {
		a := wild(r, r.Intn(5))
		for _, b := range []api.Node{a, twin(a), changed(r, a), wild(r, r.Intn(3))} {
			is := flat(a) == flat(b)
			wantSame(t, a, b, is)
			if is {
				same++
			} else {
				other++
			}
			wantNumber(t, "Size of "+flat(b), sexpr.Size(b), count(b))
		}
	}
	if same < 10000 || other < 10000 {
		t.Fatalf("%d are the same, %d are not", same, other)
	}
}

// count is how many tokens a node has, by a list of what is still to be looked at.
func count(n api.Node) int {
	size, left := 0, []api.Node{n}
	for len(left) > 0 {
		n, left = left[0], left[1:]
		size++
		if !isToken(n) {
			size++
			left = append(left, n.Kids...)
		}
	}
	return size
}

// changed is a twin of a node that is another one at one place.
func changed(r *rand.Rand, n api.Node) api.Node {
	n = twin(n)
	all := parts(&n)
	at := all[r.Intn(len(all))]
	switch r.Intn(6) {
	case 0:
		at.Token.Kind = r.Intn(11) - 1
	case 1:
		at.Token.Text += "x"
	case 2:
		at.Kids = append(at.Kids, symbol("a"))
	case 3:
		at.Kids = nil
	case 4:
		at.Token.Begin++
	case 5:
		at.Token.End, at.Token.Line, at.Token.Column = 9, 9, 9
	}
	return n
}

func TestX3Size(t *testing.T) {
	for text, want := range map[string]int{"a": 1, "()": 2, "(a)": 3, "(())": 4, "(a b)": 4, "(a (b 1.5))": 7, "(() ())": 6, "(((a)) \"b c\" |d e|)": 9} {
		l, _, _ := sexpr.Read(text)
		wantNumber(t, text, sexpr.Size(l[0]), want)
	}
	eachToken(func(n api.Node) { wantNumber(t, "a token", sexpr.Size(n), 1) })
	wantNumber(t, "no token at all", sexpr.Size(api.Node{}), 2)
}

// A node that is as deep as any that may be handed in, and one that is as wide.
func TestX3DeepAndWide(t *testing.T) {
	const most = 1 << 16
	for _, n := range []int{1000, 1001, 5000, most - 1} {
		a, b, c := nested(symbol("a"), n), nested(symbol("a"), n), nested(symbol("b"), n)
		wantNumber(t, "Size", sexpr.Size(a), 2*n+1)
		for _, is := range []bool{sexpr.Same(a, a), sexpr.Same(a, b), !sexpr.Same(a, c), !sexpr.Same(a, nested(symbol("a"), n-1)), !sexpr.Same(nested(list(), n-1), a), !sexpr.Same(a, list(a, a))} {
			if !is {
				t.Fatalf("Same of %d lists in one another", n)
			}
		}
	}
	wide, other := make([]api.Node, 1<<20), make([]api.Node, 1<<20)
	if !sexpr.Same(list(wide...), list(other...)) {
		t.Fatal("Same of a wide list")
	}
	other[len(other)-1] = symbol("a")
	if sexpr.Same(list(wide...), list(other...)) {
		t.Fatal("Same of another wide list")
	}
	wantNumber(t, "Size", sexpr.Size(list(other...)), 2*len(other)+1)
}
