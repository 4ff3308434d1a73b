package sexpr_test

import (
	"math/rand"

	"fulcrum/api"
)

// someTexts are right for one kind or another, nearly, or for none.
var someTexts = []string{"", "a", "a b", "->", "let", "(", ")", "|", "\\", "0", "7", "007", "1.5", "1.", "aF", "01", "g", "\"", "é", "\xc3", "\x00", "a\x1fb", "a\nb", "; c"}

// kinds are those that there are, and some that there are not.
var kinds = []int{api.TokOpen, api.TokClose, api.TokSymbol, api.TokKeyword, api.TokNumeral, api.TokDecimal, api.TokHex, api.TokBinary, api.TokString, -1, api.TokString + 1, 77, 1 << 62, -1 << 63}

// eachToken hands on each of the kinds with each of the texts.
func eachToken(do func(n api.Node)) {
	for _, kind := range kinds {
		for _, text := range someTexts {
			do(token(kind, text))
		}
	}
}

// wild is a node of any kind: tokens that can't be written, tokens that have kids, lists that have a Text, and places that can't be.
func wild(r *rand.Rand, deep int) api.Node {
	n := api.Node{Token: somePlace(r)}
	if deep == 0 || r.Intn(3) == 0 {
		n.Token.Kind = kinds[r.Intn(len(kinds))]
	}
	if r.Intn(2) == 0 || n.Token.Kind != api.TokNone {
		n.Token.Text = someTexts[r.Intn(len(someTexts))]
	}
	if deep > 0 && (n.Token.Kind == api.TokNone || r.Intn(4) == 0) {
		for range r.Intn(4) {
			n.Kids = append(n.Kids, wild(r, deep-1))
		}
	}
	return n
}

// mild is a node that can be written.
func mild(r *rand.Rand, deep int) api.Node {
	if deep > 0 && r.Intn(3) > 0 {
		n := api.Node{Token: somePlace(r)}
		for range r.Intn(4) {
			n.Kids = append(n.Kids, mild(r, deep-1))
		}
		return n
	}
	n := samples[r.Intn(len(samples))].is
	where := somePlace(r)
	where.Kind, where.Text = n.Token.Kind, n.Token.Text
	return api.Node{Token: where}
}

// somePlace is one that has nothing to do with any text.
func somePlace(r *rand.Rand) api.Token {
	return api.Token{Begin: r.Intn(9) - 4, End: r.Intn(9) - 4, Line: r.Intn(5) - 2, Column: r.Intn(5) - 2}
}

// twin is another node with kids of its own, each of which has room behind its list's end.
func twin(n api.Node) api.Node {
	if n.Kids == nil {
		return n
	}
	kids := make([]api.Node, len(n.Kids), len(n.Kids)+2)
	for i, kid := range n.Kids {
		kids[i] = twin(kid)
	}
	for i := range 2 {
		kids[:cap(kids)][len(kids)+i] = token(77, "behind the end")
	}
	n.Kids = kids
	return n
}

// parts are the nodes in a node, itself too, wherever they stand.
func parts(n *api.Node) []*api.Node {
	out := []*api.Node{n}
	for i := range n.Kids {
		out = append(out, parts(&n.Kids[i])...)
	}
	return out
}
