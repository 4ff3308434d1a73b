package sexpr_test

import (
	"fmt"
	"math/rand"
	"strings"

	"fulcrum/api"
	"fulcrum/tokens"
)

// The chapter's words over lists of tokens: how deep each place is, by counting brackets; which closing bracket belongs to which opening one, by looking for it.

// known is what Read tells of a text; depth is how many lists are open at its end, or where it is wrong.
type known struct {
	whole []api.Node
	err   api.Errno
	place int
	depth int
}

func ref(text string) known {
	l, e, at := tokens.All(text)
	out := soFar(l, e, at.Begin)
	if out.err == api.OK && out.depth > 0 {
		out.err, out.place = api.ErrEnd, outermost(l)
	}
	return out
}

// soFar is what is told of a text of which more may come, by its tokens, and by layer 12's error if that has one.
func soFar(l []api.Token, e api.Errno, place int) known {
	out := known{err: e, place: place}
	whole := 0 // so many tokens stand in S-expressions that are whole
	for i, t := range l {
		depth := out.depth
		switch t.Kind {
		case api.TokOpen:
			depth++
		case api.TokClose:
			depth--
		}
		if depth < 0 || depth > 1000 {
			out.err, out.place = api.ErrParen, t.Begin
			if depth > 0 {
				out.err = api.ErrNested
			}
			break
		}
		if out.depth = depth; depth == 0 {
			whole = i + 1
		}
	}
	if out.err == api.OK {
		out.place = 0
	}
	out.whole = forest(l[:whole])
	return out
}

// outermost is the place of the first bracket that is not closed.
func outermost(l []api.Token) int {
	for i := 0; ; i = partner(l, i) + 1 {
		for l[i].Kind != api.TokOpen {
			i++
		}
		if partner(l, i) == len(l) {
			return l[i].Begin
		}
	}
}

// partner is where the bracket closes that opens at i; or the end.
func partner(l []api.Token, i int) int {
	open := 0
	for ; i < len(l); i++ {
		switch l[i].Kind {
		case api.TokOpen:
			open++
		case api.TokClose:
			open--
		}
		if open == 0 {
			return i
		}
	}
	return i
}

// forest is tokens whose brackets are all in order as nodes.
func forest(l []api.Token) []api.Node {
	var out []api.Node
	for i := 0; i < len(l); i++ {
		if l[i].Kind != api.TokOpen {
			out = append(out, api.Node{Token: l[i]})
			continue
		}
		j := partner(l, i)
		where := api.Token{Begin: l[i].Begin, Line: l[i].Line, Column: l[i].Column, End: l[j].End}
		out = append(out, api.Node{Token: where, Kids: forest(l[i+1 : j])})
		i = j
	}
	return out
}

// isToken is the chapter's section Types.
func isToken(n api.Node) bool {
	return n.Token.Kind != api.TokNone
}

// full is all of a node: the places too, and no difference between nil and the empty list.
func full(n api.Node) string {
	return fulls([]api.Node{n})
}

func fulls(l []api.Node) string {
	var out strings.Builder
	spell(&out, l)
	return out.String()
}

func spell(out *strings.Builder, l []api.Node) {
	for _, n := range l {
		t := n.Token
		fmt.Fprintf(out, "%d %q %d-%d %d:%d [", t.Kind, t.Text, t.Begin, t.End, t.Line, t.Column)
		spell(out, n.Kids)
		out.WriteString("]\n")
	}
}

// flat is what counts of a node, so that two are the Same just if they have one flat text.
func flat(n api.Node) string {
	if isToken(n) {
		return fmt.Sprintf("<%d %q>", n.Token.Kind, n.Token.Text)
	}
	out := "["
	for _, kid := range n.Kids {
		out += flat(kid)
	}
	return out + "]"
}

func depth(n api.Node) int {
	if isToken(n) {
		return 0
	}
	most := 0
	for _, kid := range n.Kids {
		most = max(most, depth(kid))
	}
	return most + 1
}

// written is what Print tells, by joining what the kids print.
func written(n api.Node) (string, api.Errno) {
	if depth(n) > 1000 {
		return "", api.ErrNested
	}
	if n.Token.Kind == api.TokOpen || n.Token.Kind == api.TokClose {
		return "", api.ErrToken
	}
	if isToken(n) {
		return tokens.Print(n.Token)
	}
	var kids []string
	for _, kid := range n.Kids {
		text, e := written(kid)
		if e != api.OK {
			return "", e
		}
		kids = append(kids, text)
	}
	return "(" + strings.Join(kids, " ") + ")", api.OK
}

// bits are of what texts are made, so that lists, tokens, comments and what is wrong stand beside one another.
var bits = []string{
	"(", "(", "(", "(", "(", ")", ")", ")", ")", "a", "->", "|a b|", "|", ":named", "0", "10", "1.50", "#xaF", "#b01",
	`"a b"`, "\"a\n)\"", `"`, "; (\n", ";", "\n", "\r", "\t", " ", " ", " ", "é", "\\", "\x01", "1.", "00",
}

// tame are those of which each one alone is right.
var tame = []string{"(", "(", "(", "(", "(", ")", ")", ")", ")", ")", "a", "->", "|a b|", "||", "|)|", ":named", "0", "10", "1.50", "#xaF", "#b01", `"a b"`, "\"a\n(\"", "; )\n", "\n", "\r", " ", " ", " ", " ", " ", " "}

// someText is up to most of the bits, one behind the other.
func someText(r *rand.Rand, of []string, most int) string {
	var out strings.Builder
	for range r.Intn(most + 1) {
		out.WriteString(of[r.Intn(len(of))])
	}
	return out.String()
}

// goodText is a text in which nothing is wrong.
func goodText(r *rand.Rand, most int) string {
	var out strings.Builder
	open := 0
	for range r.Intn(most + 1) {
		bit := tame[r.Intn(len(tame))]
		switch bit {
		case "(":
			open++
		case ")":
			open--
		}
		if open < 0 {
			bit, open = "(", 1
		}
		out.WriteString(bit + " ")
	}
	return out.String() + strings.Repeat(")", open)
}

// cutAnyhow is a text in pieces, of which some are empty.
func cutAnyhow(r *rand.Rand, text string) []string {
	var out []string
	for text != "" {
		n := r.Intn(min(len(text), 1+r.Intn(9)) + 1)
		out = append(out, text[:n])
		text = text[n:]
	}
	return append(out, "")
}

func cutBytes(text string) []string {
	var out []string
	for i := range len(text) {
		out = append(out, text[i:i+1])
	}
	return out
}

// eachText hands on all texts of so many bits.
func eachText(of []string, long int, do func(text string)) {
	eachBehind("", of, long, do)
}

func eachBehind(head string, of []string, long int, do func(text string)) {
	if long == 0 {
		do(head)
		return
	}
	for _, b := range of {
		eachBehind(head+b, of, long-1, do)
	}
}
