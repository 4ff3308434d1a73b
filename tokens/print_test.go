package tokens_test

import (
	"fmt"
	"math/rand"
	"regexp"
	"strings"
	"testing"

	"fulcrum/api"
	"fulcrum/tokens"
)

var (
	wholeNumber  = regexp.MustCompile(`^` + digits + `$`)
	wholeDecimal = regexp.MustCompile(`^` + digits + `\.[0-9]+$`)
	wholeHex     = regexp.MustCompile(`^[0-9a-fA-F]+$`)
	wholeBinary  = regexp.MustCompile(`^[01]+$`)
)

// written is K3's words for a token's text.
func written(t api.Token) (string, api.Errno) {
	check := func(holds bool, text string, otherwise api.Errno) (string, api.Errno) {
		if holds {
			return text, api.OK
		}
		return "", otherwise
	}
	switch t.Kind {
	case api.TokOpen:
		return check(t.Text == "(", "(", api.ErrToken)
	case api.TokClose:
		return check(t.Text == ")", ")", api.ErrToken)
	case api.TokSymbol:
		if plainName.MatchString(t.Text) {
			return t.Text, api.OK
		}
		return check(!hasByte(t.Text, mayNotBeQuoted) && !strings.ContainsAny(t.Text, `|\`), "|"+t.Text+"|", api.ErrPlain)
	case api.TokKeyword:
		return check(plainName.MatchString(t.Text), ":"+t.Text, api.ErrPlain)
	case api.TokNumeral:
		return check(wholeNumber.MatchString(t.Text), t.Text, api.ErrToken)
	case api.TokDecimal:
		return check(wholeDecimal.MatchString(t.Text), t.Text, api.ErrToken)
	case api.TokHex:
		return check(wholeHex.MatchString(t.Text), "#x"+t.Text, api.ErrToken)
	case api.TokBinary:
		return check(wholeBinary.MatchString(t.Text), "#b"+t.Text, api.ErrToken)
	case api.TokString:
		return check(!hasByte(t.Text, mayNotBeQuoted), `"`+strings.ReplaceAll(t.Text, `"`, `""`)+`"`, api.ErrPlain)
	}
	return "", api.ErrToken
}

// eachTokenText hands on texts that are right for one kind or another, or nearly, or of any bytes.
func eachTokenText(do func(text string)) {
	for _, text := range []string{
		"", "(", ")", "((", "()", "( ", " (", "a", "a b", "let", "->", ":a", "|a|", "0", "00", "07", "7", "12", " 12", "12 ", "12;", "12\n", "1 2", "1.", ".5", "0.5", "0.50", "00.5", "1.5 ", "1.5;c", "1..5", "-1",
		"f", "aF", "g", "0g", "f ", "f;c", " f", "#xf", "#b1", "2", "01", "10 ", "x1", "b1", "\"", "\"\"", "a\"b", "\"a\"", "a\nb", "\t", "\r\n", "\\", "a\\b", "|", "a|b", "é", "\xc3", "\x00", "\x7f", "a\x1fb", ";", "; c",
	} {
		do(text)
	}
	eachName(do)
}

func TestK3Print(t *testing.T) {
	eachTokenText(func(text string) {
		for kind := -2; kind <= api.TokString+2; kind++ {
			token := api.Token{Kind: kind, Text: text}
			got, e := tokens.Print(token)
			want, wanted := written(token)
			wantErr(t, fmt.Sprintf("Print(%+v)", token), e, wanted)
			wantText(t, fmt.Sprintf("Print(%+v)", token), got, want)
		}
	})
}

func TestK3KindsThatThereAreNot(t *testing.T) {
	for _, kind := range []int{api.TokNone, -1, api.TokString + 1, 77, 1 << 62, -1 << 63} {
		for _, text := range []string{"", "a", "(", "0", "#x1", `"a"`} {
			got, e := tokens.Print(api.Token{Kind: kind, Text: text})
			wantErr(t, text, e, api.ErrToken)
			wantText(t, text, got, "")
		}
	}
}

// Where a token stands counts for nothing.
func TestK3PlacesCountForNothing(t *testing.T) {
	for _, s := range samples {
		for _, where := range []api.Token{{}, {Begin: 7, End: 3, Line: -1, Column: 1 << 40}, {Begin: -1, End: -1}} {
			where.Kind, where.Text = s.is.Kind, s.is.Text
			got, e := tokens.Print(where)
			wantErr(t, s.text, e, api.OK)
			wantText(t, s.text, got, s.text)
		}
	}
}

// What is printed is read as that token alone.
func TestK7ThereAndBack(t *testing.T) {
	printed := 0
	eachTokenText(func(text string) {
		for kind := api.TokNone; kind <= api.TokString; kind++ {
			token := api.Token{Kind: kind, Text: text}
			out, e := tokens.Print(token)
			if e != api.OK {
				continue
			}
			printed++
			l, e, at := tokens.All(out)
			wantErr(t, out, e, api.OK)
			wantPlace(t, out, at, api.Token{})
			if len(l) != 1 || noPlace(l[0]) != token || l[0].Begin != 0 || l[0].End != len(out) {
				t.Fatalf("%q of %+v is read as %+v", out, token, l)
			}
		}
	})
	if printed < 1000 {
		t.Fatalf("%d were printed", printed)
	}
}

// Each token that All tells can be printed; the tokens of a text, printed with a blank between, are the same tokens.
func TestK7TokensOfTexts(t *testing.T) {
	r := rand.New(rand.NewSource(7))
	for range 5000 {
		for _, of := range [][]string{bits, tame} {
			text := someText(r, of, 15)
			l, _, _ := tokens.All(text)
			for _, blank := range []string{" ", "\t", "\n", "\r"} {
				again, e, _ := tokens.All(printed(t, l, blank))
				wantErr(t, text, e, api.OK)
				wantTokens(t, text, noPlaces(again), noPlaces(l))
			}
		}
	}
}

func printed(t *testing.T, l []api.Token, between string) string {
	t.Helper()
	var out []string
	for _, token := range l {
		text, e := tokens.Print(token)
		wantErr(t, token.Text, e, api.OK)
		out = append(out, text)
	}
	return strings.Join(out, between)
}

// Tokens do not overlap and stand in the text's order, each is what its bytes say, and between them there are blanks and comments alone.
func TestK8WhatStandsBetween(t *testing.T) {
	r := rand.New(rand.NewSource(8))
	for range 5000 {
		for _, of := range [][]string{bits, tame} {
			wantInOrder(t, someText(r, of, 15))
		}
	}
	for long := range 5 {
		eachText([]string{"a", "0", "(", "|", `"`, ";", "\n", "é", " "}, long, func(text string) { wantInOrder(t, text) })
	}
}

func wantInOrder(t *testing.T, text string) {
	t.Helper()
	l, e, at := tokens.All(text)
	behind := 0
	for _, token := range l {
		if token.Begin < behind || token.End <= token.Begin || !gapWithin.MatchString(text[behind:token.Begin]) {
			t.Fatalf("%q: %+v", text, l)
		}
		alone, _, _ := tokens.All(text[token.Begin:token.End])
		wantTokens(t, text, noPlaces(alone), []api.Token{noPlace(token)})
		where := place(text, token.Begin)
		if token.Line != where.Line || token.Column != where.Column {
			t.Fatalf("%q: %+v", text, token)
		}
		behind = token.End
	}
	if e == api.OK && !gapAtEnd.MatchString(text[behind:]) || e != api.OK && at.Begin < behind {
		t.Fatalf("%q: behind the last token there is %q", text, text[behind:])
	}
}
