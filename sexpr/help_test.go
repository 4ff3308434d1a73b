package sexpr_test

import (
	"strconv"
	"strings"
	"testing"

	"fulcrum/api"
	"fulcrum/sexpr"
)

func wantErr(t *testing.T, what string, got, want api.Errno) {
	t.Helper()
	if got != want {
		t.Fatalf("%s: the error %d, not %d", what, got, want)
	}
}

func wantText(t *testing.T, what, got, want string) {
	t.Helper()
	if got != want {
		t.Fatalf("%s: %q, not %q", what, got, want)
	}
}

func wantNumber(t *testing.T, what string, got, want int) {
	t.Helper()
	if got != want {
		t.Fatalf("%s: %d, not %d", what, got, want)
	}
}

// wantNodes: the same nodes at the same places.
func wantNodes(t *testing.T, what string, got, want []api.Node) {
	t.Helper()
	if g, w := fulls(got), fulls(want); g != w {
		t.Fatalf("%s: %s, not %s", what, g, w)
	}
}

// wantRead holds Read of a text against what is known of it.
func wantRead(t *testing.T, text string, want known) {
	t.Helper()
	what := "Read of " + strconv.Quote(text)
	l, e, place := sexpr.Read(text)
	wantErr(t, what, e, want.err)
	wantNumber(t, what+": the place", place, want.place)
	wantNodes(t, what, l, want.whole)
}

// wantSays: what some nodes say, each printed, with one of these between each two.
func wantSays(t *testing.T, what string, got []api.Node, want string) {
	t.Helper()
	var out []string
	for _, n := range got {
		text, e := written(n)
		wantErr(t, what, e, api.OK)
		out = append(out, text)
	}
	wantText(t, what, strings.Join(out, " · "), want)
}

func token(kind int, text string) api.Node {
	return api.Node{Token: api.Token{Kind: kind, Text: text}}
}

func symbol(text string) api.Node { return token(api.TokSymbol, text) }
func str(text string) api.Node    { return token(api.TokString, text) }

func list(kids ...api.Node) api.Node {
	return api.Node{Kids: kids}
}

// at is a node at a place on the first line.
func at(n api.Node, begin, end int) api.Node {
	n.Token.Begin, n.Token.End, n.Token.Line, n.Token.Column = begin, end, 1, begin+1
	return n
}

// nested is a node in so many lists.
func nested(n api.Node, lists int) api.Node {
	for range lists {
		n = list(n)
	}
	return n
}

// opens and shuts are so many brackets.
func opens(n int) string { return strings.Repeat("(", n) }
func shuts(n int) string { return strings.Repeat(")", n) }

// samples is a text of each kind of token.
var samples = []struct {
	text string
	is   api.Node
}{
	{"a", symbol("a")}, {"->", symbol("->")}, {"|a b|", symbol("a b")}, {"||", symbol("")}, {"|(|", symbol("(")}, {":k", token(api.TokKeyword, "k")},
	{"0", token(api.TokNumeral, "0")}, {"12", token(api.TokNumeral, "12")}, {"1.50", token(api.TokDecimal, "1.50")}, {"#xaF", token(api.TokHex, "aF")}, {"#b01", token(api.TokBinary, "01")},
	{`"s"`, str("s")}, {`""`, str("")}, {`"a"""`, str(`a"`)}, {`")"`, str(")")},
}

// faults is each error of layer 12, with how many bytes stand ahead of it; those that are atEnd are wrong by the text's end alone.
var faults = []struct {
	text  string
	err   api.Errno
	ahead int
	atEnd bool
}{
	{"007", api.ErrToken, 0, false}, {"12a", api.ErrToken, 0, false}, {"1.x", api.ErrToken, 0, false}, {"#xg", api.ErrToken, 0, false}, {"#b12", api.ErrToken, 0, false}, {"#q", api.ErrToken, 0, false}, {":1", api.ErrToken, 0, false},
	{"\\", api.ErrToken, 0, false}, {"é", api.ErrToken, 0, false}, {"{", api.ErrToken, 0, false}, {"\x00", api.ErrToken, 0, false}, {"\"b\x01\"", api.ErrToken, 2, false}, {"|b\\|", api.ErrToken, 2, false}, {"|)\x7f|", api.ErrToken, 2, false},
	{"1.", api.ErrToken, 0, true}, {"#", api.ErrToken, 0, true}, {"#x", api.ErrToken, 0, true}, {"#b", api.ErrToken, 0, true}, {":", api.ErrToken, 0, true},
	{"\"b", api.ErrQuote, 0, true}, {"\"b\"\")", api.ErrQuote, 0, true}, {"|b", api.ErrQuote, 0, true}, {"|b) (c", api.ErrQuote, 0, true},
}
