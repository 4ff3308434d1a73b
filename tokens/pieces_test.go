package tokens_test

import (
	"math/rand"
	"strconv"
	"testing"

	"fulcrum/api"
	"fulcrum/tokens"
)

// wantPieces feeds a scanner with the pieces, and holds what it tells, call by call, against what is known of the text so far.
func wantPieces(t *testing.T, pieces []string, know func(text string) known) {
	t.Helper()
	s, text, told, failed := tokens.New(), "", 0, known{}
	for _, piece := range pieces {
		what := "Feed of " + strconv.Quote(piece) + " behind " + strconv.Quote(text)
		l, e := s.Feed(piece)
		if failed.err != api.OK {
			wantErr(t, what, e, failed.err)
			wantTokens(t, what, l, nil)
			wantPlace(t, what, s.At(), failed.at)
			continue
		}
		text += piece
		want := know(text)
		wantErr(t, what, e, want.err)
		wantTokens(t, what, l, want.tokens[told:])
		wantPlace(t, what, s.At(), want.at)
		told = len(want.tokens)
		if e != api.OK {
			failed = want
		}
	}
	wantEnd(t, s, text, told, failed)
}

// wantEnd says that the text ends, and asks behind that.
func wantEnd(t *testing.T, s *tokens.Scanner, text string, told int, failed known) {
	t.Helper()
	what := "End of " + strconv.Quote(text)
	l, e := s.End()
	want, behind := ref(text), api.ErrArg
	if failed.err != api.OK {
		want, told = failed, len(failed.tokens)
	}
	wantErr(t, what, e, want.err)
	wantTokens(t, what, l, want.tokens[told:])
	at := place(text, len(text))
	if want.err != api.OK {
		at, behind = want.at, want.err
	}
	wantPlace(t, what, s.At(), at)
	for _, more := range []string{"", "a ", "(", "\n", "\x01"} {
		l, e = s.Feed(more)
		wantErr(t, "behind the "+what, e, behind)
		wantTokens(t, "behind the "+what, l, nil)
		l, e = s.End()
		wantErr(t, "behind the "+what, e, behind)
		wantTokens(t, "behind the "+what, l, nil)
		wantPlace(t, "behind the "+what, s.At(), at)
	}
}

// remembered is soFar, worked out once for each text.
func remembered() func(text string) known {
	was := map[string]known{}
	return func(text string) known {
		it, ok := was[text]
		if !ok {
			it = soFar(text)
			was[text] = it
		}
		return it
	}
}

// What each byte tells, at once.
func TestK4AllShortTexts(t *testing.T) {
	know := remembered()
	for long := range 4 {
		eachText(someBits, long, func(text string) { wantPieces(t, cutBytes(text), know) })
	}
	eachText([]string{"a", "0", ".", ":", "#", "x", `"`, "|", ";", "\n", "\x01"}, 4, func(text string) { wantPieces(t, cutBytes(text), know) })
}

// Each kind of token, with each of the 256 bytes behind it, byte by byte.
func TestK4EachByteBehind(t *testing.T) {
	know := remembered()
	heads := []string{"", ";", "; c", `"`, `"a`, "|", "|a", ":", "#", "#x", "#b", "1.", "0."}
	for _, s := range samples {
		heads = append(heads, s.text)
	}
	for _, head := range heads {
		for n := range 256 {
			wantPieces(t, []string{head, string([]byte{byte(n)})}, know)
			wantPieces(t, cutBytes(head+string([]byte{byte(n)})+" "), know)
		}
	}
}

// Each text cut at each place, into bytes, and anyhow, with empty pieces.
func TestK4Pieces(t *testing.T) {
	r := rand.New(rand.NewSource(4))
	for range 400 {
		know := remembered()
		for _, of := range [][]string{bits, tame} {
			text := someText(r, of, 12)
			for i := range len(text) + 1 {
				wantPieces(t, []string{text[:i], text[i:]}, know)
			}
			wantPieces(t, cutBytes(text), know)
			wantPieces(t, []string{text}, know)
			wantPieces(t, []string{"", text, "", ""}, know)
			for range 4 {
				wantPieces(t, cutAnyhow(r, text), know)
			}
		}
	}
}

// said is what one Feed tells.
type said struct {
	piece string
	e     api.Errno
	want  []api.Token
	begin int // of At behind it
}

// What is told at once, and what only the next byte or End tells: by hand.
func TestK4WhatIsToldWhen(t *testing.T) {
	for what, c := range map[string]struct {
		feeds []said
		end   said
	}{
		"a symbol":                {[]said{{"a", api.OK, nil, 0}, {"b", api.OK, nil, 0}, {" ", api.OK, []api.Token{symbol("ab")}, 3}}, said{begin: 3}},
		"a symbol at the end":     {[]said{{"a", api.OK, nil, 0}}, said{want: []api.Token{symbol("a")}, begin: 1}},
		"a keyword":               {[]said{{":", api.OK, nil, 0}, {"k", api.OK, nil, 0}, {":", api.OK, []api.Token{keyword("k")}, 2}}, said{e: api.ErrToken, begin: 2}},
		"brackets":                {[]said{{"(", api.OK, []api.Token{open}, 1}, {")(", api.OK, []api.Token{shut, open}, 3}}, said{begin: 3}},
		"bars":                    {[]said{{"|a", api.OK, nil, 0}, {"|", api.OK, []api.Token{symbol("a")}, 3}, {"b", api.OK, nil, 3}}, said{want: []api.Token{symbol("b")}, begin: 4}},
		"bars that do not end":    {[]said{{"(|a", api.OK, []api.Token{open}, 1}, {"\n", api.OK, nil, 1}}, said{e: api.ErrQuote, begin: 1}},
		"a \\ in bars":            {[]said{{" |a", api.OK, nil, 1}, {"\\", api.ErrToken, nil, 3}, {"|", api.ErrToken, nil, 3}}, said{e: api.ErrToken, begin: 3}},
		"a numeral":               {[]said{{"1", api.OK, nil, 0}, {"2", api.OK, nil, 0}, {"(", api.OK, []api.Token{numeral("12"), open}, 3}}, said{begin: 3}},
		"a decimal":               {[]said{{"1", api.OK, nil, 0}, {".", api.OK, nil, 0}, {"5", api.OK, nil, 0}, {"\n", api.OK, []api.Token{decimal("1.5")}, 4}}, said{begin: 4}},
		"a decimal without place": {[]said{{"1.", api.OK, nil, 0}, {" ", api.ErrToken, nil, 0}}, said{e: api.ErrToken}},
		"1. at the end":           {[]said{{"a 1.", api.OK, []api.Token{symbol("a")}, 2}}, said{e: api.ErrToken, begin: 2}},
		"two noughts":             {[]said{{"0", api.OK, nil, 0}, {"0", api.ErrToken, nil, 0}, {"", api.ErrToken, nil, 0}}, said{e: api.ErrToken}},
		"a letter behind digits":  {[]said{{"a 12", api.OK, []api.Token{symbol("a")}, 2}, {"x", api.ErrToken, nil, 2}}, said{e: api.ErrToken, begin: 2}},
		"a sharp":                 {[]said{{"#", api.OK, nil, 0}, {"x", api.OK, nil, 0}, {"f", api.OK, nil, 0}, {"#", api.OK, []api.Token{hex("f")}, 3}, {"c", api.ErrToken, nil, 3}}, said{e: api.ErrToken, begin: 3}},
		"a binary":                {[]said{{"#b", api.OK, nil, 0}, {"0", api.OK, nil, 0}, {"2", api.ErrToken, nil, 0}}, said{e: api.ErrToken}},
		"a string":                {[]said{{`"a`, api.OK, nil, 0}, {`"`, api.OK, nil, 0}, {" ", api.OK, []api.Token{str("a")}, 4}}, said{begin: 4}},
		"a string at the end":     {[]said{{`"a"`, api.OK, nil, 0}}, said{want: []api.Token{str("a")}, begin: 3}},
		"two quotes":              {[]said{{`"a"`, api.OK, nil, 0}, {`"`, api.OK, nil, 0}, {`"`, api.OK, nil, 0}, {`(`, api.OK, []api.Token{str(`a"`), open}, 6}}, said{begin: 6}},
		"a string without end":    {[]said{{`a"`, api.OK, []api.Token{symbol("a")}, 1}, {"b c", api.OK, nil, 1}}, said{e: api.ErrQuote, begin: 1}},
		"a byte in a string":      {[]said{{"\"a\n", api.OK, nil, 0}, {"b\x01\"", api.ErrToken, nil, 4}}, said{e: api.ErrToken, begin: 4}},
		"a byte behind a token":   {[]said{{"a b\\c d", api.ErrToken, []api.Token{symbol("a"), symbol("b")}, 3}, {"e ", api.ErrToken, nil, 3}}, said{e: api.ErrToken, begin: 3}},
		"a byte of a character":   {[]said{{"|\xc3", api.OK, nil, 0}, {"\xa9", api.OK, nil, 0}, {"|", api.OK, []api.Token{symbol("é")}, 4}}, said{begin: 4}},
		"a comment":               {[]said{{"; (", api.OK, nil, 3}, {"a", api.OK, nil, 4}, {"\r", api.OK, nil, 5}, {"a", api.OK, nil, 5}, {";", api.OK, []api.Token{symbol("a")}, 7}}, said{begin: 7}},
		"blanks":                  {[]said{{" ", api.OK, nil, 1}, {"\t\r", api.OK, nil, 3}, {"", api.OK, nil, 3}}, said{begin: 3}},
		"nothing":                 {[]said{{"", api.OK, nil, 0}}, said{}},
	} {
		s := tokens.New()
		wantPlace(t, what, s.At(), place("", 0))
		for _, f := range c.feeds {
			l, e := s.Feed(f.piece)
			wantErr(t, what+", "+f.piece, e, f.e)
			wantTokens(t, what+", "+f.piece, noPlaces(l), f.want)
			wantBegin(t, what+", "+f.piece, s.At(), f.begin)
		}
		l, e := s.End()
		wantErr(t, what, e, c.end.e)
		wantTokens(t, what, noPlaces(l), c.end.want)
		wantBegin(t, what, s.At(), c.end.begin)
	}
}

// wantBegin: a place alone that begins there.
func wantBegin(t *testing.T, what string, at api.Token, begin int) {
	t.Helper()
	if at.Begin != begin || at.End != begin || at.Kind != api.TokNone || at.Text != "" {
		t.Fatalf("%s: At is %+v, not at %d", what, at, begin)
	}
}

// Lines and columns of At, within what has come of a token and behind it.
func TestK5LinesAndColumns(t *testing.T) {
	s := tokens.New()
	for _, c := range []struct {
		piece               string
		begin, line, column int
	}{
		{"", 0, 1, 1}, {"\n ", 2, 2, 2}, {"\"a", 2, 2, 2}, {"\nb", 2, 2, 2}, {"\"", 2, 2, 2}, {" ", 8, 3, 4}, {"; é", 12, 3, 8}, {"\n", 13, 4, 1}, {"|\n\n", 13, 4, 1}, {"é|", 19, 6, 4}, {"x", 19, 6, 4}, {"\r", 21, 6, 6}, {"\xc3", 21, 6, 6}, {"\n", 21, 6, 6},
	} {
		s.Feed(c.piece) // what it answers is looked at elsewhere
		wantPlace(t, strconv.Quote(c.piece), s.At(), api.Token{Begin: c.begin, End: c.begin, Line: c.line, Column: c.column})
	}
	_, e := s.End()
	wantErr(t, "End", e, api.ErrToken)
}

// A scanner that New did not give.
func TestK5NobodysScanner(t *testing.T) {
	for what, s := range map[string]*tokens.Scanner{"nil": nil, "a plain one": {}, "another one": new(tokens.Scanner)} {
		for _, piece := range []string{"", "a ", "(", "00", "\x01"} {
			wantPlace(t, what, s.At(), api.Token{Line: 1, Column: 1})
			l, e := s.Feed(piece)
			wantErr(t, what, e, api.ErrArg)
			wantTokens(t, what, l, nil)
			l, e = s.End()
			wantErr(t, what, e, api.ErrArg)
			wantTokens(t, what, l, nil)
			wantPlace(t, what, s.At(), tokens.New().At())
		}
	}
}

// All pieces together tell what All tells of the whole.
func TestK6PiecesTellWhatAllTells(t *testing.T) {
	r := rand.New(rand.NewSource(6))
	for range 3000 {
		for _, of := range [][]string{bits, tame} {
			text := someText(r, of, 25)
			l, e, at := tokens.All(text)
			for _, pieces := range [][]string{cutBytes(text), cutAnyhow(r, text), {text}} {
				wantSame(t, pieces, known{l, e, at})
			}
		}
	}
}

func wantSame(t *testing.T, pieces []string, want known) {
	t.Helper()
	s := tokens.New()
	var got known
	for _, piece := range pieces {
		l, e := s.Feed(piece)
		got.tokens = append(got.tokens, l...)
		got.err = e
	}
	l, e := s.End()
	if got.err != api.OK {
		wantErr(t, "End behind an error", e, got.err)
	}
	wantTokens(t, "the tokens", append(got.tokens, l...), want.tokens)
	wantErr(t, "the error", e, want.err)
	if want.err != api.OK {
		wantPlace(t, "the error", s.At(), want.at)
	}
}
