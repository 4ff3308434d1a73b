package tokens_test

import (
	"testing"

	"fulcrum/api"
	"fulcrum/tokens"
)

// The chapter's five examples.

func TestExample1(t *testing.T) {
	l, e, at := tokens.All("(assert (> x |a b|))")
	wantErr(t, "All", e, api.OK)
	wantPlace(t, "All", at, api.Token{})
	wantTokens(t, "All", noPlaces(l), []api.Token{open, symbol("assert"), open, symbol(">"), symbol("x"), symbol("a b"), shut, shut})
	wantTokens(t, "the sixth", l[5:6], []api.Token{{Kind: api.TokSymbol, Text: "a b", Begin: 13, End: 18, Line: 1, Column: 14}})
}

func TestExample2(t *testing.T) {
	for _, c := range []struct {
		text string
		want []api.Token
	}{
		{`"a""b"`, []api.Token{str(`a"b`)}},
		{`"a" "b"`, []api.Token{str("a"), str("b")}},
		{`a"b"`, []api.Token{symbol("a"), str("b")}},
		{`|a|b`, []api.Token{symbol("a"), symbol("b")}},
		{`x:y`, []api.Token{symbol("x"), keyword("y")}},
		{`||`, []api.Token{symbol("")}},
	} {
		l, e, _ := tokens.All(c.text)
		wantErr(t, c.text, e, api.OK)
		wantTokens(t, c.text, noPlaces(l), c.want)
	}
}

func TestExample3(t *testing.T) {
	for _, c := range []struct {
		text string
		want []api.Token
		e    api.Errno
		at   int
	}{
		{"007", nil, api.ErrToken, 0},
		{"x 1.", []api.Token{symbol("x")}, api.ErrToken, 2},
		{`\`, nil, api.ErrToken, 0},
		{"(|a", []api.Token{open}, api.ErrQuote, 1},
		{`|a\b|`, nil, api.ErrToken, 2},
		{"#b12", nil, api.ErrToken, 0},
	} {
		l, e, at := tokens.All(c.text)
		wantErr(t, c.text, e, c.e)
		wantTokens(t, c.text, noPlaces(l), c.want)
		wantPlace(t, c.text, at, api.Token{Begin: c.at, End: c.at, Line: 1, Column: c.at + 1})
	}
}

func TestExample4(t *testing.T) {
	for name, want := range map[string]string{"a b": "|a b|", "": "||", "1": "|1|"} {
		got, e := tokens.Symbol(name)
		wantErr(t, name, e, api.OK)
		wantText(t, name, got, want)
	}
	got, e := tokens.Symbol("a|b")
	wantErr(t, "a|b", e, api.ErrPlain)
	wantText(t, "a|b", got, "")
	if !tokens.Plain("->") || tokens.Plain("1") {
		t.Error("Plain")
	}
}

func TestExample5(t *testing.T) {
	feed := func(s *tokens.Scanner, piece string, e api.Errno, want ...api.Token) {
		t.Helper()
		l, got := s.Feed(piece)
		wantErr(t, piece, got, e)
		wantTokens(t, piece, noPlaces(l), want)
	}
	end := func(s *tokens.Scanner, e api.Errno) {
		t.Helper()
		l, got := s.End()
		wantErr(t, "End", got, e)
		wantTokens(t, "End", l, nil)
	}
	s := tokens.New()
	feed(s, "ab", api.OK)
	feed(s, "c(", api.OK, symbol("abc"), open)
	end(s, api.OK)

	feed(tokens.New(), "00", api.ErrToken)

	s = tokens.New()
	feed(s, `"a"`, api.OK)
	feed(s, `"`, api.OK)
	end(s, api.ErrQuote)
	wantPlace(t, "a string that has a quote so far", s.At(), place("", 0))

	s = tokens.New()
	feed(s, "; c", api.OK)
	l, e := s.Feed("x\ny ")
	wantErr(t, "behind a comment", e, api.OK)
	wantTokens(t, "behind a comment", l, []api.Token{{Kind: api.TokSymbol, Text: "y", Begin: 5, End: 6, Line: 2, Column: 1}})
}
