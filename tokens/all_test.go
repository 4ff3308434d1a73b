package tokens_test

import (
	"math/rand"
	"strings"
	"testing"

	"fulcrum/api"
	"fulcrum/tokens"
)

// at is a token with its places, on the first line.
func at(t api.Token, begin, end int) api.Token {
	t.Begin, t.End, t.Line, t.Column = begin, end, 1, begin+1
	return t
}

func TestK1TextsWithoutTokens(t *testing.T) {
	for _, text := range []string{"", " ", "\t", "\n", "\r", " \t\r\n ", ";", ";;", "; a", "; a\n", "; a\r", "; a\r\n", ";\n;\r;", "; \" | ( \x00 \xc3 é \\", "  ; a\n\t; b"} {
		wantAll(t, text, known{})
	}
}

func TestK1WhereACommentEnds(t *testing.T) {
	for _, c := range []struct {
		text         string
		begin        int
		line, column int
	}{
		{"; c\na", 4, 2, 1}, {"; c\ra", 4, 1, 5}, {"; c\r\na", 5, 2, 1}, {"; c\n\ra", 5, 2, 2}, {";\n;\n a", 5, 3, 2}, {"; c ;\na", 6, 2, 1}, {"; (\ra;\ra", 4, 1, 5},
	} {
		l, e, _ := tokens.All(c.text)
		wantErr(t, c.text, e, api.OK)
		wantTokens(t, c.text, l[:1], []api.Token{{Kind: api.TokSymbol, Text: "a", Begin: c.begin, End: c.begin + 1, Line: c.line, Column: c.column}})
	}
	wantAll(t, "a;b\n", known{tokens: []api.Token{at(symbol("a"), 0, 1)}})
	wantAll(t, "a;b", known{tokens: []api.Token{at(symbol("a"), 0, 1)}})
}

// Each token alone: at the text's end, ahead of a blank, a bracket, a comment.
func TestK1EachToken(t *testing.T) {
	for _, s := range samples {
		n := len(s.text)
		for _, more := range []string{"", " ", "\t", "\r", ";", "; c"} {
			wantAll(t, s.text+more, known{tokens: []api.Token{at(s.is, 0, n)}})
		}
		wantAll(t, "("+s.text+")", known{tokens: []api.Token{at(open, 0, 1), at(s.is, 1, 1+n), at(shut, 1+n, 2+n)}})
		wantAll(t, "; c\r "+s.text, known{tokens: []api.Token{at(s.is, 5, 5+n)}})
	}
}

// Each two tokens with a blank between them, and without one, where the first one can't go on with the second one's bytes.
func TestK1OneAheadOfAnother(t *testing.T) {
	for _, a := range samples {
		for _, b := range samples {
			n, m := len(a.text), len(b.text)
			wantAll(t, a.text+" "+b.text, known{tokens: []api.Token{at(a.is, 0, n), at(b.is, n+1, n+1+m)}})
			quotes := a.is.Kind == api.TokString && b.is.Kind == api.TokString
			endsByItself := a.is.Kind <= api.TokClose || a.is.Kind == api.TokString || a.text[0] == '|'
			if !quotes && (endsByItself || !symbolByte.MatchString(b.text)) {
				wantAll(t, a.text+b.text, known{tokens: []api.Token{at(a.is, 0, n), at(b.is, n, n+m)}})
			}
			wantAll(t, a.text+b.text, ref(a.text+b.text))
		}
	}
}

func TestK1Tokens(t *testing.T) {
	for text, want := range map[string][]api.Token{
		"~!@$%^&*_-+=<>.?/":     {symbol("~!@$%^&*_-+=<>.?/")},
		"azAZ09":                {symbol("azAZ09")},
		"-1 -1.5 .5 +":          {symbol("-1"), symbol("-1.5"), symbol(".5"), symbol("+")},
		"let _ ! as":            {symbol("let"), symbol("_"), symbol("!"), symbol("as")},
		"|let| let":             {symbol("let"), symbol("let")},
		"|a|":                   {symbol("a")},
		"| \t\r\n|":             {symbol(" \t\r\n")},
		"|\"|":                  {symbol("\"")},
		"|;|":                   {symbol(";")},
		"|;|;|":                 {symbol(";")},
		"|(|)|)|":               {symbol("("), shut, symbol(")")},
		"|é|":                   {symbol("é")},
		"|\xc3|":                {symbol("\xc3")},
		"|a||b|":                {symbol("a"), symbol("b")},
		":a :-> :let :. :a1":    {keyword("a"), keyword("->"), keyword("let"), keyword("."), keyword("a1")},
		":a:b":                  {keyword("a"), keyword("b")},
		":a|b|\"c\"#x1":         {keyword("a"), symbol("b"), str("c"), hex("1")},
		"0 1 9 10 100 987654":   {numeral("0"), numeral("1"), numeral("9"), numeral("10"), numeral("100"), numeral("987654")},
		"0.0 0.10 1.0 10.010":   {decimal("0.0"), decimal("0.10"), decimal("1.0"), decimal("10.010")},
		"#x0 #x00 #xAbC9f":      {hex("0"), hex("00"), hex("AbC9f")},
		"#b0 #b00 #b1 #b10":     {binary("0"), binary("00"), binary("1"), binary("10")},
		"1#x1#b1\"a\"|b|:c(0.5": {numeral("1"), hex("1"), binary("1"), str("a"), symbol("b"), keyword("c"), open, decimal("0.5")},
		"a#b1:k#xf":             {symbol("a"), binary("1"), keyword("k"), hex("f")},
		"1|a|2":                 {numeral("1"), symbol("a"), numeral("2")},
		"1.5:a":                 {decimal("1.5"), keyword("a")},
		`""`:                    {str("")},
		`""""`:                  {str(`"`)},
		`""""""`:                {str(`""`)},
		`"a""""b"`:              {str(`a""b`)},
		`"""a"`:                 {str(`"a`)},
		`"a"""`:                 {str(`a"`)},
		`"a"b"c"`:               {str("a"), symbol("b"), str("c")},
		"\" \t\r\n;|\\()\"":     {str(" \t\r\n;|\\()")},
		"\"é\xff\"":             {str("é\xff")},
		"()())(":                {open, shut, open, shut, shut, open},
	} {
		l, e, at := tokens.All(text)
		wantErr(t, text, e, api.OK)
		wantPlace(t, text, at, api.Token{})
		wantTokens(t, text, noPlaces(l), want)
	}
}

// What is wrong, where that is, and how many tokens stand ahead of it.
func TestK1Errors(t *testing.T) {
	for _, c := range []struct {
		text  string
		e     api.Errno
		begin int
		ahead int
	}{
		{"00", api.ErrToken, 0, 0}, {"01", api.ErrToken, 0, 0}, {"007", api.ErrToken, 0, 0}, {"00.5", api.ErrToken, 0, 0}, {"0a", api.ErrToken, 0, 0}, {"0-", api.ErrToken, 0, 0},
		{"12a", api.ErrToken, 0, 0}, {"1_", api.ErrToken, 0, 0}, {"1.", api.ErrToken, 0, 0}, {"0.", api.ErrToken, 0, 0}, {"1.x", api.ErrToken, 0, 0}, {"1..", api.ErrToken, 0, 0},
		{"1. 5", api.ErrToken, 0, 0}, {"1.(", api.ErrToken, 0, 0}, {"1.\"a\"", api.ErrToken, 0, 0}, {"1.5.", api.ErrToken, 0, 0}, {"1.5.6", api.ErrToken, 0, 0}, {"1.5e", api.ErrToken, 0, 0},
		{"#", api.ErrToken, 0, 0}, {"##", api.ErrToken, 0, 0}, {"# x1", api.ErrToken, 0, 0}, {"#x", api.ErrToken, 0, 0}, {"#b", api.ErrToken, 0, 0}, {"#x ", api.ErrToken, 0, 0}, {"#b(", api.ErrToken, 0, 0},
		{"#xg", api.ErrToken, 0, 0}, {"#x1g", api.ErrToken, 0, 0}, {"#xG", api.ErrToken, 0, 0}, {"#x-", api.ErrToken, 0, 0}, {"#b2", api.ErrToken, 0, 0}, {"#b12", api.ErrToken, 0, 0}, {"#b1a", api.ErrToken, 0, 0},
		{"#X1", api.ErrToken, 0, 0}, {"#B1", api.ErrToken, 0, 0}, {"#a", api.ErrToken, 0, 0}, {"#1", api.ErrToken, 0, 0}, {"#x1.", api.ErrToken, 0, 0},
		{":", api.ErrToken, 0, 0}, {": a", api.ErrToken, 0, 0}, {":1", api.ErrToken, 0, 0}, {"::a", api.ErrToken, 0, 0}, {":|a|", api.ErrToken, 0, 0}, {":(", api.ErrToken, 0, 0}, {":a :", api.ErrToken, 3, 1}, {":a::", api.ErrToken, 2, 1},
		{`"`, api.ErrQuote, 0, 0}, {`"a`, api.ErrQuote, 0, 0}, {`"a""`, api.ErrQuote, 0, 0}, {`"""`, api.ErrQuote, 0, 0}, {`"a" "b`, api.ErrQuote, 4, 1}, {`a"`, api.ErrQuote, 1, 1}, {"( \"a\n", api.ErrQuote, 2, 1},
		{"|", api.ErrQuote, 0, 0}, {"|a", api.ErrQuote, 0, 0}, {"|a||", api.ErrQuote, 3, 1}, {"a|", api.ErrQuote, 1, 1}, {"|a\"", api.ErrQuote, 0, 0},
		{"\"a\x01\"", api.ErrToken, 2, 0}, {"\"a\x7f\"", api.ErrToken, 2, 0}, {"\"\x00", api.ErrToken, 1, 0}, {"\"a\"\"\x1f", api.ErrToken, 4, 0}, {"\"a\"\x1f", api.ErrToken, 3, 1}, {"a \"b\x0b c", api.ErrToken, 4, 1},
		{`|a\b|`, api.ErrToken, 2, 0}, {"|\x01|", api.ErrToken, 1, 0}, {"|a\x7f", api.ErrToken, 2, 0}, {`|\`, api.ErrToken, 1, 0}, {"|a|\\", api.ErrToken, 3, 1}, {"(|a|b|\x0c|", api.ErrToken, 6, 3},
		{"a \\", api.ErrToken, 2, 1}, {"a\\", api.ErrToken, 1, 1}, {"{", api.ErrToken, 0, 0}, {"a{", api.ErrToken, 1, 1}, {"1{", api.ErrToken, 1, 1}, {"#x1,", api.ErrToken, 3, 1}, {"0.5'", api.ErrToken, 3, 1},
		{"é", api.ErrToken, 0, 0}, {"\xc3", api.ErrToken, 0, 0}, {"aé", api.ErrToken, 1, 1}, {"a\xff", api.ErrToken, 1, 1}, {"\ufffd", api.ErrToken, 0, 0}, {"\u00a0", api.ErrToken, 0, 0}, {"x\u2003", api.ErrToken, 1, 1},
		{"é 1.", api.ErrToken, 0, 0}, {"\"é\" 1.", api.ErrToken, 5, 1}, {"00 \"", api.ErrToken, 0, 0}, {"\" 00", api.ErrQuote, 0, 0}, {"; 00\n00", api.ErrToken, 5, 0},
	} {
		l, e, at := tokens.All(c.text)
		wantErr(t, c.text, e, c.e)
		if len(l) != c.ahead {
			t.Fatalf("%q: %+v", c.text, l)
		}
		wantPlace(t, c.text, at, place(c.text, c.begin))
	}
}

// Lines are ended by the byte 10 alone, in strings and bars too; columns count bytes.
func TestK1LinesAndColumns(t *testing.T) {
	for _, c := range []struct {
		text         string
		line, column int
	}{
		{"a z", 1, 3}, {"a\nz", 2, 1}, {"a\n\n z", 3, 2}, {"a\rz", 1, 3}, {"a\r\nz", 2, 1}, {"a\tz", 1, 3},
		{"\"a\nb\"z", 2, 3}, {"\"\n\n\" z", 3, 3}, {"|a\nbc|z", 2, 4}, {"|\n|\nz", 3, 1}, {"\"é\" z", 1, 6}, {"|é\n\xc3|z", 2, 3}, {"; é\nz", 2, 1}, {"; é\rz", 1, 6}, {"\n\n\nz", 4, 1}, {"a;\n;\n\tz", 3, 2},
	} {
		l, e, _ := tokens.All(c.text)
		wantErr(t, c.text, e, api.OK)
		last := l[len(l)-1]
		if last.Text != "z" || last.Line != c.line || last.Column != c.column || last.Begin != len(c.text)-1 || last.End != len(c.text) {
			t.Fatalf("%q: %+v", c.text, last)
		}
		_, e, at := tokens.All(c.text[:len(c.text)-1] + " \\")
		wantErr(t, c.text, e, api.ErrToken)
		wantPlace(t, c.text, at, api.Token{Begin: len(c.text), End: len(c.text), Line: c.line, Column: c.column + 1})
	}
	l, _, _ := tokens.All("\n \"a\nb\" c")
	wantTokens(t, "a string that goes over a line", l, []api.Token{
		{Kind: api.TokString, Text: "a\nb", Begin: 2, End: 7, Line: 2, Column: 2}, {Kind: api.TokSymbol, Text: "c", Begin: 8, End: 9, Line: 3, Column: 4},
	})
}

// mayBeQuoted and isSymbolByte are the chapter's lists, byte by byte.
func mayBeQuoted(b byte) bool {
	return b == 9 || b == 10 || b == 13 || b == 32 || b >= 33 && b <= 126 || b >= 128
}

func isSymbolByte(b byte) bool {
	return b >= 'a' && b <= 'z' || b >= 'A' && b <= 'Z' || b >= '0' && b <= '9' || strings.IndexByte("~!@$%^&*_-+=<>.?/", b) >= 0
}

// Each of the 256 bytes alone.
func TestK1EachByteAlone(t *testing.T) {
	for n := range 256 {
		b := byte(n)
		text := string([]byte{b})
		want := known{err: api.ErrToken, at: place("", 0)}
		switch {
		case strings.IndexByte("\t\n\r ;", b) >= 0:
			want = known{}
		case b == '(':
			want = known{tokens: []api.Token{at(open, 0, 1)}}
		case b == ')':
			want = known{tokens: []api.Token{at(shut, 0, 1)}}
		case b >= '0' && b <= '9':
			want = known{tokens: []api.Token{at(numeral(text), 0, 1)}}
		case isSymbolByte(b):
			want = known{tokens: []api.Token{at(symbol(text), 0, 1)}}
		case b == '"' || b == '|':
			want.err = api.ErrQuote
		}
		wantAll(t, text, want)
	}
}

// Each of the 256 bytes in a string, in bars and in a comment, also where it is a part of a character.
func TestK1EachByteWithin(t *testing.T) {
	for n := range 256 {
		b := string([]byte{byte(n)})
		for _, beside := range []string{"", "a", "\xc3", "\xe2\x80", "é"} {
			in := beside + b
			bad := place(in, len(beside))
			bad.Begin, bad.End, bad.Column = bad.Begin+1, bad.End+1, bad.Column+1
			want := known{err: api.ErrToken, at: bad}
			if mayBeQuoted(byte(n)) && b != `"` {
				want = known{tokens: []api.Token{at(str(in), 0, len(in)+2)}}
			} else if b == `"` {
				want = known{err: api.ErrQuote, at: place("", 0)}
			}
			wantAll(t, `"`+in+`"`, want)

			want = known{err: api.ErrToken, at: bad}
			if b == "|" {
				want = known{tokens: []api.Token{at(symbol(beside), 0, len(beside)+2)}, err: api.ErrQuote, at: place(in+"|", len(in)+1)}
			} else if mayBeQuoted(byte(n)) && b != `\` {
				want = known{tokens: []api.Token{at(symbol(in), 0, len(in)+2)}}
			}
			wantAll(t, "|"+in+"|", want)

			l, e, _ := tokens.All("; " + in + " \na")
			wantErr(t, in, e, api.OK)
			wantTokens(t, in, noPlaces(l), []api.Token{symbol("a")})
		}
	}
}

// Each of the 256 bytes right behind each kind of token, and what is told of the token then.
func TestK1EachByteBehind(t *testing.T) {
	for _, s := range samples {
		for n := range 256 {
			b := byte(n)
			text := s.text + string([]byte{b})
			wantAll(t, text, ref(text))
			l, e, _ := tokens.All(text)
			isNumber := s.is.Kind >= api.TokNumeral && s.is.Kind <= api.TokBinary
			goesOn := s.is.Kind == api.TokHex && strings.IndexByte("0123456789abcdefABCDEF", b) >= 0 || s.is.Kind == api.TokBinary && (b == '0' || b == '1') ||
				s.text == "12" && b >= '0' && b <= '9' || s.is.Kind == api.TokDecimal && b >= '0' && b <= '9' || s.is.Kind == api.TokString && b == '"' ||
				isSymbolByte(b) && (s.is.Kind == api.TokSymbol && s.text[0] != '|' || s.is.Kind == api.TokKeyword)
			switch {
			case goesOn:
				if len(l) > 0 && l[0].End == len(s.text) {
					t.Fatalf("%q: %+v", text, l)
				}
			case isNumber && isSymbolByte(b):
				wantErr(t, text, e, api.ErrToken)
				wantTokens(t, text, l, nil)
			default:
				wantTokens(t, text, l[:1], []api.Token{at(s.is, 0, len(s.text))})
			}
		}
	}
}

// someBits are one byte of each sort, and one character of more bytes.
var someBits = []string{"(", "a", "x", "b", "0", "1", ".", ":", "#", `"`, "|", ";", " ", "\n", "\\", "\x01", "é", "\xc3"}

func TestK1AllShortTexts(t *testing.T) {
	for long := range 5 {
		eachText(someBits, long, func(text string) { wantAll(t, text, ref(text)) })
	}
}

func TestK1LongerTexts(t *testing.T) {
	r := rand.New(rand.NewSource(1))
	for range 20000 {
		for _, of := range [][]string{bits, tame} {
			text := someText(r, of, 20)
			wantAll(t, text, ref(text))
		}
	}
}
