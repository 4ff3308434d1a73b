package sexpr_test

import (
	"math/rand"
	"slices"
	"strings"
	"testing"

	"fulcrum/api"
	"fulcrum/sexpr"
	"fulcrum/tokens"
)

func wantPrint(t *testing.T, n api.Node, want string, wanted api.Errno) {
	t.Helper()
	got, e := sexpr.Print(n)
	wantErr(t, "Print, not "+want, e, wanted)
	wantText(t, "Print", got, want)
}

func TestX2EachToken(t *testing.T) {
	for _, s := range samples {
		wantPrint(t, s.is, s.text, api.OK)
		wantPrint(t, list(s.is), "("+s.text+")", api.OK)
		wantPrint(t, list(s.is, s.is), "("+s.text+" "+s.text+")", api.OK)
		wantPrint(t, list(list(s.is), s.is, list()), "(("+s.text+") "+s.text+" ())", api.OK)
	}
}

// What a token prints is layer 12's, and so is its error; but brackets are none.
func TestX2Tokens(t *testing.T) {
	eachToken(func(n api.Node) {
		want, wanted := tokens.Print(n.Token)
		if n.Token.Kind == api.TokOpen || n.Token.Kind == api.TokClose {
			want, wanted = "", api.ErrToken
		}
		wantPrint(t, n, want, wanted)
		if wanted == api.OK {
			wantPrint(t, list(n), "("+want+")", api.OK)
			return
		}
		wantPrint(t, list(n), "", wanted)
		wantPrint(t, list(symbol("a"), list(list(), n), symbol("b")), "", wanted)
	})
	for _, n := range []api.Node{token(api.TokOpen, "("), token(api.TokClose, ")")} {
		if _, e := tokens.Print(n.Token); e != api.OK {
			t.Fatal("layer 12 prints brackets")
		}
		wantPrint(t, n, "", api.ErrToken)
		wantPrint(t, list(n), "", api.ErrToken)
	}
}

func TestX2Lists(t *testing.T) {
	for text, n := range map[string]api.Node{
		"()": list(), "(())": list(list()), "(() ())": list(list(), list()), "(a)": list(symbol("a")), "(a b)": list(symbol("a"), symbol("b")), "(a (b c) d)": list(symbol("a"), list(symbol("b"), symbol("c")), symbol("d")),
		"((a) b)": list(list(symbol("a")), symbol("b")), "(a (b))": list(symbol("a"), list(symbol("b"))), "(|)| \"(\")": list(symbol(")"), str("(")), "((a) (b))": list(list(symbol("a")), list(symbol("b"))),
	} {
		wantPrint(t, n, text, api.OK)
	}
	wantPrint(t, api.Node{}, "()", api.OK)
	wantPrint(t, api.Node{Kids: []api.Node{{}}}, "(())", api.OK)
}

// Of a list with several kids that can't be written the first one's error is told.
func TestX2TheFirstError(t *testing.T) {
	plain, odd := symbol("a|b"), token(api.TokNumeral, "007")
	for _, c := range []struct {
		n   api.Node
		err api.Errno
	}{
		{list(plain), api.ErrPlain}, {list(odd), api.ErrToken}, {list(plain, odd), api.ErrPlain}, {list(odd, plain), api.ErrToken}, {list(symbol("a"), plain, odd), api.ErrPlain}, {list(symbol("a"), odd, list(plain)), api.ErrToken},
		{list(list(plain), odd), api.ErrPlain}, {list(list(list(odd)), plain), api.ErrToken}, {list(list(symbol("a"), list()), list(list(), plain), odd), api.ErrPlain}, {list(str("\x00"), token(api.TokOpen, "(")), api.ErrPlain},
		{list(token(api.TokClose, ")"), str("\x00")), api.ErrToken}, {list(token(api.TokKeyword, "1"), token(99, "")), api.ErrPlain}, {list(token(99, ""), token(api.TokKeyword, "1")), api.ErrToken},
	} {
		wantPrint(t, c.n, "", c.err)
	}
}

// A list of depth 1000 is printed; one of 1001 is not, whatever else is wrong with it, and wherever it is so deep.
func TestX2Depth(t *testing.T) {
	const most = api.MaxNested
	wantPrint(t, nested(list(), most-1), opens(most)+shuts(most), api.OK)
	wantPrint(t, nested(symbol("a"), most), opens(most)+"a"+shuts(most), api.OK)
	wantPrint(t, nested(list(), most), "", api.ErrNested)
	wantPrint(t, nested(symbol("a"), most+1), "", api.ErrNested)
	wantPrint(t, nested(symbol("a"), 1<<16-1), "", api.ErrNested)
	wantPrint(t, list(nested(list(), most-2), nested(list(), most-2)), "("+opens(most-1)+shuts(most-1)+" "+opens(most-1)+shuts(most-1)+")", api.OK)
	for _, wrong := range []api.Node{symbol("|"), token(api.TokOpen, "("), token(77, "")} {
		e := api.ErrToken
		if wrong.Token.Kind == api.TokSymbol {
			e = api.ErrPlain
		}
		wantPrint(t, nested(wrong, most), "", e)
		wantPrint(t, nested(wrong, most+1), "", api.ErrNested)
		wantPrint(t, list(wrong, nested(list(), most-2)), "", e)
		wantPrint(t, list(wrong, nested(list(), most-1)), "", api.ErrNested)
		wantPrint(t, list(nested(list(), most-1), wrong), "", api.ErrNested)
		wantPrint(t, list(wrong, list(), list(wrong, nested(symbol("a"), most-1))), "", api.ErrNested)
	}
}

// A token's kids count for nothing, however deep they are and whatever they are; nor does a list's Text, nor where anything stands.
func TestX2WhatCountsForNothing(t *testing.T) {
	for _, kids := range [][]api.Node{{list()}, {symbol("|"), token(api.TokOpen, "(")}, {nested(list(), 2000)}, {nested(list(), 1<<16-2)}} {
		n := symbol("a")
		n.Kids = kids
		wantPrint(t, n, "a", api.OK)
		wantPrint(t, list(n, str("b")), `(a "b")`, api.OK)
		wantPrint(t, nested(n, 1000), opens(1000)+"a"+shuts(1000), api.OK)
		n.Token.Kind = api.TokClose
		wantPrint(t, n, "", api.ErrToken)
	}
	n := list(symbol("a"))
	n.Token.Text = "|\x00"
	n.Token.Begin, n.Token.End, n.Token.Line, n.Token.Column = -1, 1<<40, 7, -9
	n.Kids[0].Token.Begin = -5
	wantPrint(t, n, "(a)", api.OK)
}

func TestX2AnyNodes(t *testing.T) {
	r := rand.New(rand.NewSource(2))
	right, wrong := 0, 0
	for range 20000 {
		for _, n := range []api.Node{wild(r, r.Intn(4)), mild(r, r.Intn(6))} {
			want, e := written(n)
			wantPrint(t, n, want, e)
			if e == api.OK {
				right++
			} else {
				wrong++
			}
		}
	}
	if right < 5000 || wrong < 5000 {
		t.Fatalf("%d can be written, %d can't", right, wrong)
	}
}

// What Print says, Read reads as the Same alone.
func TestX5PrintedAndRead(t *testing.T) {
	r := rand.New(rand.NewSource(5))
	printed := 0
	for range 20000 {
		for _, n := range []api.Node{wild(r, r.Intn(3)), mild(r, r.Intn(6))} {
			text, e := sexpr.Print(n)
			if e != api.OK {
				continue
			}
			printed++
			l, e, place := sexpr.Read(text)
			wantErr(t, text, e, api.OK)
			wantNumber(t, text, place, 0)
			if len(l) != 1 || !sexpr.Same(l[0], n) || flat(l[0]) != flat(n) {
				t.Fatalf("%s is read as %+v", text, l)
			}
			if l[0].Token.Begin != 0 || l[0].Token.End != len(text) {
				t.Fatalf("%s: %+v", text, l)
			}
		}
	}
	if printed < 10000 {
		t.Fatalf("%d were printed", printed)
	}
	deep := nested(symbol("a b"), 1000)
	text, _ := sexpr.Print(deep)
	if l, e, _ := sexpr.Read(text); e != api.OK || len(l) != 1 || !sexpr.Same(l[0], deep) {
		t.Fatal("1000 lists in one another")
	}
}

// Print of what Read read reads again as the Same; what stands ahead of an error too.
func TestX5ReadAndPrinted(t *testing.T) {
	r := rand.New(rand.NewSource(55))
	for range 5000 {
		for _, text := range []string{someText(r, bits, 30), someText(r, tame, 30), goodText(r, 50)} {
			l, _, _ := sexpr.Read(text)
			var out []string
			for _, n := range l {
				text, e := sexpr.Print(n)
				wantErr(t, text, e, api.OK)
				out = append(out, text)
			}
			again, e, _ := sexpr.Read(strings.Join(out, "\n"))
			wantErr(t, text, e, api.OK)
			if !slices.EqualFunc(l, again, sexpr.Same) || flat(list(l...)) != flat(list(again...)) {
				t.Fatalf("%q: %+v, then %+v", text, l, again)
			}
		}
	}
}
