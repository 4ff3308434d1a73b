package tokens_test

import (
	"slices"
	"strconv"
	"testing"

	"fulcrum/api"
	"fulcrum/tokens"
)

func wantErr(t *testing.T, what string, got, want api.Errno) {
	t.Helper()
	if got != want {
		t.Fatalf("%s: the error %d, not %d", what, got, want)
	}
}

func wantText(t *testing.T, what, got, want string) {
	t.Helper()
	if got != want {
		t.Fatalf("%s: %q, not %q", what, got, want)
	}
}

func wantTokens(t *testing.T, what string, got, want []api.Token) {
	t.Helper()
	if !slices.Equal(got, want) {
		t.Fatalf("%s: %+v, not %+v", what, got, want)
	}
}

func wantPlace(t *testing.T, what string, got, want api.Token) {
	t.Helper()
	if got != want {
		t.Fatalf("%s: the place %+v, not %+v", what, got, want)
	}
}

// wantAll holds All of a text against what is known of it.
func wantAll(t *testing.T, text string, want known) {
	t.Helper()
	l, e, at := tokens.All(text)
	wantTokens(t, "All of "+strconv.Quote(text), l, want.tokens)
	wantErr(t, "All of "+strconv.Quote(text), e, want.err)
	wantPlace(t, "All of "+strconv.Quote(text), at, want.at)
}

// noPlace is a token without its places.
func noPlace(t api.Token) api.Token {
	return api.Token{Kind: t.Kind, Text: t.Text}
}

func noPlaces(l []api.Token) []api.Token {
	var out []api.Token
	for _, t := range l {
		out = append(out, noPlace(t))
	}
	return out
}

func symbol(text string) api.Token  { return api.Token{Kind: api.TokSymbol, Text: text} }
func keyword(text string) api.Token { return api.Token{Kind: api.TokKeyword, Text: text} }
func numeral(text string) api.Token { return api.Token{Kind: api.TokNumeral, Text: text} }
func decimal(text string) api.Token { return api.Token{Kind: api.TokDecimal, Text: text} }
func hex(text string) api.Token     { return api.Token{Kind: api.TokHex, Text: text} }
func binary(text string) api.Token  { return api.Token{Kind: api.TokBinary, Text: text} }
func str(text string) api.Token     { return api.Token{Kind: api.TokString, Text: text} }

var (
	open = api.Token{Kind: api.TokOpen, Text: "("}
	shut = api.Token{Kind: api.TokClose, Text: ")"}
)

// samples is a text of each kind of token, and of each way that one may end.
var samples = []struct {
	text string
	is   api.Token
}{
	{"(", open}, {")", shut}, {"a", symbol("a")}, {"->", symbol("->")}, {"|a b|", symbol("a b")}, {"||", symbol("")}, {":k", keyword("k")},
	{"0", numeral("0")}, {"12", numeral("12")}, {"0.5", decimal("0.5")}, {"1.50", decimal("1.50")}, {"#xaF", hex("aF")}, {"#b01", binary("01")},
	{`"s"`, str("s")}, {`""`, str("")}, {`"a"""`, str(`a"`)},
}
