package sexpr_test

import (
	"math/rand"
	"slices"
	"strconv"
	"strings"
	"testing"

	"fulcrum/api"
	"fulcrum/sexpr"
	"fulcrum/tokens"
)

// wantPieces feeds a reader with the pieces, and holds what it tells, call by call, against what the tokens say that a Scanner fed with the same pieces tells.
func wantPieces(t *testing.T, pieces []string) {
	t.Helper()
	r, s := sexpr.NewReader(), tokens.New()
	var come []api.Token
	var was known
	wantNumber(t, "Depth of a new one", r.Depth(), 0)
	for i, piece := range pieces {
		what := "Feed of " + strconv.Quote(piece) + " behind " + strconv.Quote(strings.Join(pieces[:i], ""))
		l, e := r.Feed(piece)
		if was.err != api.OK {
			wantErr(t, what, e, was.err)
			wantNodes(t, what, l, nil)
			wantNumber(t, what+": Depth", r.Depth(), was.depth)
			continue
		}
		told, wrong := s.Feed(piece)
		come = append(come, told...)
		now := soFar(come, wrong, s.At().Begin)
		wantErr(t, what, e, now.err)
		wantNodes(t, what, l, now.whole[len(was.whole):])
		wantNumber(t, what+": Depth", r.Depth(), now.depth)
		was = now
	}
	wantEnd(t, r, s, come, was)
}

// wantEnd says that the text ends, and asks behind that.
func wantEnd(t *testing.T, r *sexpr.Reader, s *tokens.Scanner, come []api.Token, was known) {
	t.Helper()
	now := was
	if was.err == api.OK {
		told, wrong := s.End()
		come = append(come, told...)
		now = soFar(come, wrong, s.At().Begin)
		if now.err == api.OK && now.depth > 0 {
			now.err, now.place = api.ErrEnd, outermost(come)
		}
	}
	l, e, place := r.End()
	wantErr(t, "End", e, now.err)
	wantNumber(t, "End: the place", place, now.place)
	wantNodes(t, "End", l, now.whole[len(was.whole):])
	wantNumber(t, "End: Depth", r.Depth(), now.depth)
	refusal := now.err
	if refusal == api.OK {
		refusal = api.ErrEnd
	}
	for _, more := range []string{"", "a ", "(", ")", "\\", "\""} {
		l, e = r.Feed(more)
		wantErr(t, "Feed behind End", e, refusal)
		wantNodes(t, "Feed behind End", l, nil)
		l, e, place = r.End()
		wantErr(t, "End behind End", e, now.err)
		wantNumber(t, "End behind End: the place", place, now.place)
		wantNodes(t, "End behind End", l, nil)
		wantNumber(t, "Depth behind End", r.Depth(), now.depth)
	}
}

// said is what one Feed tells; the last one is End.
type said struct {
	piece string
	want  string
	err   api.Errno
	depth int
}

// What is told at once, and what only the next byte or End tells: by hand.
func TestX4WhatIsToldAtOnce(t *testing.T) {
	for _, c := range []struct {
		feeds []said
		place int
	}{
		{[]said{{"", "", api.OK, 0}}, 0},
		{[]said{{"", "", api.OK, 0}, {"", "", api.OK, 0}, {"", "", api.OK, 0}}, 0},
		{[]said{{"a", "", api.OK, 0}, {"b", "", api.OK, 0}, {"", "ab", api.OK, 0}}, 0},
		{[]said{{"a", "", api.OK, 0}, {"", "", api.OK, 0}, {" ", "a", api.OK, 0}, {"", "", api.OK, 0}}, 0},
		{[]said{{"a", "", api.OK, 0}, {";", "a", api.OK, 0}, {")", "", api.OK, 0}, {"\n", "", api.OK, 0}, {"", "", api.OK, 0}}, 0},
		{[]said{{"a", "", api.OK, 0}, {"(", "a", api.OK, 1}, {"b", "", api.OK, 1}, {")", "(b)", api.OK, 0}, {"", "", api.OK, 0}}, 0},
		{[]said{{"|a ", "", api.OK, 0}, {"|", "|a |", api.OK, 0}, {"b ", "b", api.OK, 0}, {"", "", api.OK, 0}}, 0},
		{[]said{{`"a`, "", api.OK, 0}, {`"`, "", api.OK, 0}, {`"`, "", api.OK, 0}, {`"`, "", api.OK, 0}, {"", `"a"""`, api.OK, 0}}, 0},
		{[]said{{"12", "", api.OK, 0}, {".5", "", api.OK, 0}, {"(", "12.5", api.OK, 1}, {")()", "() · ()", api.OK, 0}, {"", "", api.OK, 0}}, 0},
		{[]said{{"(", "", api.OK, 1}, {"(", "", api.OK, 2}, {")", "", api.OK, 1}, {"((", "", api.OK, 3}, {")))x", "(() (()))", api.OK, 0}, {"", "x", api.OK, 0}}, 0},
		{[]said{{"(a) (b) (", "(a) · (b)", api.OK, 1}, {"c", "", api.OK, 1}, {") d ", "(c) · d", api.OK, 0}, {"", "", api.OK, 0}}, 0},
		{[]said{{"(a", "", api.OK, 1}, {"", "", api.ErrEnd, 1}}, 0},
		{[]said{{"x (a (b", "x", api.OK, 2}, {"", "", api.ErrEnd, 2}}, 2},
		{[]said{{"x", "", api.OK, 0}, {" ", "x", api.OK, 0}, {"(", "", api.OK, 1}, {"()", "", api.OK, 1}, {"", "", api.ErrEnd, 1}}, 2},
		{[]said{{"(a) ((", "(a)", api.OK, 2}, {"b)", "", api.OK, 1}, {") (", "((b))", api.OK, 1}, {"c", "", api.OK, 1}, {"", "", api.ErrEnd, 1}}, 10},
		{[]said{{"(a", "", api.OK, 1}, {" \"b", "", api.OK, 1}, {")", "", api.OK, 1}, {"", "", api.ErrQuote, 1}}, 3},
		{[]said{{"(1", "", api.OK, 1}, {".", "", api.OK, 1}, {"", "", api.ErrToken, 1}}, 1},
		{[]said{{"a :", "a", api.OK, 0}, {"", "", api.ErrToken, 0}}, 2},
		{[]said{{"a|", "a", api.OK, 0}, {"", "", api.ErrQuote, 0}}, 1},
		{[]said{{")", "", api.ErrParen, 0}, {"a ", "", api.ErrParen, 0}, {"", "", api.ErrParen, 0}}, 0},
		{[]said{{"a", "", api.OK, 0}, {")", "a", api.ErrParen, 0}, {"(", "", api.ErrParen, 0}, {"", "", api.ErrParen, 0}}, 1},
		{[]said{{"(a", "", api.OK, 1}, {"))", "(a)", api.ErrParen, 0}, {"", "", api.ErrParen, 0}}, 3},
		{[]said{{"((a", "", api.OK, 2}, {") (b)) c) d (", "((a) (b)) · c", api.ErrParen, 0}, {"", "", api.ErrParen, 0}}, 11},
		{[]said{{"a ) \\", "a", api.ErrParen, 0}, {"", "", api.ErrParen, 0}}, 2},
		{[]said{{"a ((", "a", api.OK, 2}, {") \\ )", "", api.ErrToken, 1}, {")", "", api.ErrToken, 1}, {"", "", api.ErrToken, 1}}, 6},
		{[]said{{"(0", "", api.OK, 1}, {"0", "", api.ErrToken, 1}, {" ", "", api.ErrToken, 1}, {"", "", api.ErrToken, 1}}, 1},
		{[]said{{"a (b) \"c", "a · (b)", api.OK, 0}, {"d\x01", "", api.ErrToken, 0}, {"", "", api.ErrToken, 0}}, 9},
		{[]said{{"a (b) 12", "a · (b)", api.OK, 0}, {"x", "", api.ErrToken, 0}, {"", "", api.ErrToken, 0}}, 6},
		{[]said{{"a (b) 12", "a · (b)", api.OK, 0}, {"\\", "12", api.ErrToken, 0}, {"", "", api.ErrToken, 0}}, 8},
		{[]said{{opens(999), "", api.OK, 999}, {"(", "", api.OK, 1000}, {"a", "", api.OK, 1000}, {"(", "", api.ErrNested, 1000}, {")", "", api.ErrNested, 1000}, {"", "", api.ErrNested, 1000}}, 1001},
		{[]said{{"a" + opens(1000), "a", api.OK, 1000}, {")(", "", api.OK, 1000}, {"))((( 00", "", api.ErrNested, 1000}, {"", "", api.ErrNested, 1000}}, 1007},
		{[]said{{opens(1000), "", api.OK, 1000}, {shuts(1000), opens(1000) + shuts(1000), api.OK, 0}, {opens(1000), "", api.OK, 1000}, {"", "", api.ErrEnd, 1000}}, 2000},
	} {
		r := sexpr.NewReader()
		end := c.feeds[len(c.feeds)-1]
		what := ""
		for _, f := range c.feeds[:len(c.feeds)-1] {
			what += f.piece + "·"
			l, e := r.Feed(f.piece)
			wantErr(t, what, e, f.err)
			wantSays(t, what, l, f.want)
			wantNumber(t, what, r.Depth(), f.depth)
		}
		l, e, place := r.End()
		wantErr(t, what, e, end.err)
		wantSays(t, what, l, end.want)
		wantNumber(t, what, r.Depth(), end.depth)
		wantNumber(t, what, place, c.place)
	}
}

// Each error of layer 12, in the piece that has it and at End.
func TestX4ErrorsOfTokens(t *testing.T) {
	for _, f := range faults {
		for _, head := range []string{"", "a ", "(", "(a) ((b) ", "x (\n"} {
			text := head + f.text
			for i := range len(text) + 1 {
				wantPieces(t, []string{text[:i], text[i:]})
				wantPieces(t, []string{text[:i], text[i:], ")", " "})
			}
			wantPieces(t, cutBytes(text))
			r := sexpr.NewReader()
			_, e := r.Feed(text)
			wantErr(t, text, e, map[bool]api.Errno{true: api.OK, false: f.err}[f.atEnd])
			_, e, place := r.End()
			wantErr(t, text, e, f.err)
			wantNumber(t, text, place, len(head)+f.ahead)
		}
	}
}

// What each byte tells.
func TestX4AllShortTexts(t *testing.T) {
	for long := range 5 {
		eachText(someBits, long, func(text string) { wantPieces(t, cutBytes(text)) })
	}
	for long := range 10 {
		eachText([]string{"(", ")"}, long, func(text string) { wantPieces(t, cutBytes(text)) })
	}
	for long := range 7 {
		eachText([]string{"(", ")", "a ", "\\"}, long, func(text string) { wantPieces(t, cutBytes(text)) })
	}
}

// Each text cut at each place, into bytes, and anyhow, with empty pieces.
func TestX4Pieces(t *testing.T) {
	r := rand.New(rand.NewSource(4))
	for range 500 {
		for _, text := range []string{someText(r, bits, 15), someText(r, tame, 15), goodText(r, 20)} {
			for i := range len(text) + 1 {
				wantPieces(t, []string{text[:i], text[i:]})
			}
			wantPieces(t, cutBytes(text))
			wantPieces(t, []string{"", text, "", ""})
			for range 4 {
				wantPieces(t, cutAnyhow(r, text))
			}
		}
	}
}

// Nothing is promised of a reader that NewReader did not give; it does not panic, and reads nothing.
func TestX4NobodysReader(t *testing.T) {
	for what, r := range map[string]*sexpr.Reader{"nil": nil, "a plain one": {}, "another one": new(sexpr.Reader)} {
		for _, piece := range []string{"", "a ", "(", ")", "\\"} {
			l, e := r.Feed(piece)
			wantErr(t, what, e, api.ErrArg)
			wantNodes(t, what, l, nil)
			wantNumber(t, what, r.Depth(), 0)
			l, e, place := r.End()
			wantErr(t, what, e, api.ErrArg)
			wantNodes(t, what, l, nil)
			wantNumber(t, what, place, 0)
		}
	}
}

// All pieces together tell what Read tells of the whole, and the first error is the one that Read has.
func TestX5PiecesTellWhatReadTells(t *testing.T) {
	r := rand.New(rand.NewSource(56))
	for range 3000 {
		for _, text := range []string{someText(r, bits, 30), someText(r, tame, 30), goodText(r, 50)} {
			for _, pieces := range [][]string{cutBytes(text), cutAnyhow(r, text), {text}, {}} {
				l, e, place := sexpr.Read(strings.Join(pieces, ""))
				wantTogether(t, pieces, known{whole: l, err: e, place: place})
			}
		}
	}
	for _, text := range []string{opens(1000) + "a" + shuts(1000), opens(1001), opens(1000), "x" + opens(1000) + shuts(1001) + "y"} {
		wantTogether(t, cutBytes(text), ref(text))
		for range 20 {
			wantTogether(t, cutAnyhow(r, text), ref(text))
		}
	}
}

func wantTogether(t *testing.T, pieces []string, want known) {
	t.Helper()
	r := sexpr.NewReader()
	var told []api.Node
	var errs []api.Errno
	for _, piece := range pieces {
		l, e := r.Feed(piece)
		told, errs = append(told, l...), append(errs, e)
	}
	l, e, place := r.End()
	told, errs = append(told, l...), append(errs, e)
	what := strconv.Quote(strings.Join(pieces, "·"))
	wantNodes(t, what, told, want.whole)
	wantErr(t, what, e, want.err)
	wantNumber(t, what, place, want.place)
	if i := slices.IndexFunc(errs, func(e api.Errno) bool { return e != api.OK }); i >= 0 {
		wantErr(t, what, errs[i], want.err)
	}
}
