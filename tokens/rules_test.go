package tokens_test

import (
	"fmt"
	"math/rand"
	"slices"
	"strings"
	"sync"
	"testing"
	"unsafe"

	"fulcrum/api"
	"fulcrum/tokens"
)

// lent is a text in memory that its owner can write over.
func lent(text string) (string, []byte) {
	room := []byte(text)
	return unsafe.String(unsafe.SliceData(room), len(room)), room
}

func spoil(room []byte) {
	for i := range room {
		room[i] = '?'
	}
}

// spoilTokens writes over a list of tokens and the room behind its end.
func spoilTokens(l []api.Token) {
	l = l[:cap(l)]
	for i := range l {
		l[i] = api.Token{Kind: 77, Text: "spoilt", Begin: -1, End: -1, Line: -1, Column: -1}
	}
}

// A panic would end the test, and so would a call that does not end: any bytes, at all functions.
func TestR1AnyBytes(t *testing.T) {
	r := rand.New(rand.NewSource(11))
	for range 20000 {
		some := make([]byte, r.Intn(40))
		r.Read(some)
		text := string(some)
		wantAll(t, text, ref(text))
		wantSame(t, cutAnyhow(r, text), ref(text))
		tokens.Print(api.Token{Kind: r.Intn(14) - 2, Text: text})
		tokens.Symbol(text)
		tokens.Plain(text)
		tokens.Reserved(text)
	}
}

// Long tokens, comments and lists of tokens end soon too, a byte at a time.
func TestR1LongTexts(t *testing.T) {
	const many = 1 << 17
	for head, c := range map[string]struct{ more, end string }{
		"a": {"b", " "}, ":": {"k", " "}, "1": {"0", " "}, "1.": {"0", " "}, "#x": {"f", " "}, "|": {"a\n", "|"}, `"`: {`""`, `"`}, ";": {"(", "\n"}, "": {"(", ""}, " ": {"\n", ""},
	} {
		text := head + strings.Repeat(c.more, many) + c.end
		l, e, at := tokens.All(text)
		wantErr(t, head, e, api.OK)
		wantSame(t, cutBytes(text), known{l, e, at})
		if out := printed(t, l, " "); len(l) > 0 && l[0].Kind != api.TokOpen && strings.TrimSpace(text) != out {
			t.Fatalf("%s..: another text", head)
		}
	}
}

// Beside an error there is nothing but what the chapter says, and without one no place.
func TestR2BesideAnError(t *testing.T) {
	eachTokenText(func(text string) {
		if _, e, at := tokens.All(text); e == api.OK && at != (api.Token{}) || e != api.OK && (at.Kind != api.TokNone || at.Text != "" || at.Begin != at.End || at.Line < 1 || at.Column < 1) {
			t.Fatalf("All(%q): %d at %+v", text, e, at)
		}
		if out, e := tokens.Symbol(text); e != api.OK && out != "" {
			t.Fatalf("Symbol(%q): %q", text, out)
		}
		for kind := range 12 {
			if out, e := tokens.Print(api.Token{Kind: kind, Text: text}); e != api.OK && out != "" || e == api.OK && out == "" {
				t.Fatalf("Print(%d, %q): %q", kind, text, out)
			}
		}
	})
}

// What is refused changes nothing: a scanner that had an error, or has ended, stays where it was.
func TestR2NothingChanges(t *testing.T) {
	for _, text := range []string{"a 00", "a \"b\x01", "(a b)", "", "a\n|b"} {
		s := tokens.New()
		s.Feed(text)
		_, first := s.End()
		at := s.At()
		for _, more := range []string{"\n\n", "a b", `"`, "|", "\\"} {
			s.Feed(more)
			s.End()
			wantPlace(t, text, s.At(), at)
		}
		if _, e := s.End(); first != api.OK && e != first || first == api.OK && e != api.ErrArg {
			t.Fatalf("%q: %d, then %d", text, first, e)
		}
	}
}

// A text that is handed in is not kept, and no answer is a piece of it.
func TestR3TextsAreNotKept(t *testing.T) {
	for _, s := range samples {
		text, room := lent(" " + s.text + " ")
		l, e, _ := tokens.All(text)
		spoil(room)
		wantErr(t, s.text, e, api.OK)
		wantTokens(t, s.text, noPlaces(l), []api.Token{s.is})

		text, room = lent(s.is.Text)
		out, e := tokens.Print(api.Token{Kind: s.is.Kind, Text: text})
		spoil(room)
		wantErr(t, s.text, e, api.OK)
		wantText(t, s.text, out, s.text)
	}
	for _, name := range []string{"a", "assert", "a b", "", "1", "é"} {
		want, _ := tokens.Symbol(strings.Clone(name))
		text, room := lent(name)
		out, e := tokens.Symbol(text)
		spoil(room)
		wantErr(t, name, e, api.OK)
		wantText(t, name, out, want)
	}
}

// Pieces that are written over, and answers that their owner changes: the scanner goes on, and other answers stay.
func TestR3PiecesAndAnswers(t *testing.T) {
	r := rand.New(rand.NewSource(33))
	for range 2000 {
		text := someText(r, tame, 25)
		want := ref(text)
		s := tokens.New()
		var kept []api.Token
		tell := func(l []api.Token, _ api.Errno) {
			kept = append(kept, l...)
			spoilTokens(l)
		}
		var rooms [][]byte
		for _, p := range cutAnyhow(r, text) {
			piece, room := lent(p)
			rooms = append(rooms, room)
			tell(s.Feed(piece))
			if r.Intn(2) == 0 {
				spoil(room)
			}
			at := s.At()
			at.Begin, at.Text = -7, "spoilt"
		}
		tell(s.End())
		for _, room := range rooms {
			spoil(room)
		}
		wantTokens(t, text, kept, want.tokens)
	}
}

// No two answers share memory, the spare room neither.
func TestR3AnswersAreNewMemory(t *testing.T) {
	r := rand.New(rand.NewSource(34))
	for range 2000 {
		text := someText(r, tame, 25)
		s := tokens.New()
		var lists, was [][]api.Token
		keep := func(l []api.Token) {
			lists, was = append(lists, l), append(was, slices.Clone(l))
		}
		for _, piece := range cutAnyhow(r, text) {
			l, _ := s.Feed(piece)
			keep(l)
		}
		l, _ := s.End()
		keep(l)
		for range 2 {
			l, _, _ = tokens.All(text)
			keep(l)
		}
		for i := range lists {
			spoilTokens(lists[i])
			for j := i + 1; j < len(lists); j++ {
				wantTokens(t, text, lists[j], was[j])
			}
		}
	}
}

// Scanners that are fed in turn, or beside one another, tell what they tell alone.
func TestR4ScannersKnowNothingOfOneAnother(t *testing.T) {
	r := rand.New(rand.NewSource(4))
	for range 500 {
		var pieces [3][]string
		var scanners [3]*tokens.Scanner
		var alone, told [3]string
		for i := range pieces {
			pieces[i] = cutAnyhow(r, someText(r, bits, 20))
			alone[i] = talk(tokens.New(), pieces[i])
			scanners[i] = tokens.New()
		}
		for longest := range 200 {
			for i, s := range scanners {
				if longest < len(pieces[i]) {
					told[i] += talk(s, pieces[i][longest:longest+1])
				}
			}
		}
		if told != alone {
			t.Fatalf("%q: %v in turn, %v alone", pieces, told, alone)
		}
		var wait sync.WaitGroup
		for i := range pieces {
			wait.Go(func() {
				if again := talk(tokens.New(), pieces[i]); again != alone[i] {
					t.Errorf("%q: %s, then %s", pieces[i], alone[i], again)
				}
			})
		}
		wait.Wait()
	}
}

// talk is all that a scanner tells of some pieces.
func talk(s *tokens.Scanner, pieces []string) string {
	var out strings.Builder
	for _, piece := range pieces {
		l, e := s.Feed(piece)
		fmt.Fprintf(&out, "%+v %d %+v;", l, e, s.At())
	}
	return out.String()
}

// The same call answers the same, whatever was asked ahead of it; At changes nothing.
func TestR4TheSameAgain(t *testing.T) {
	r := rand.New(rand.NewSource(44))
	for range 2000 {
		text := someText(r, bits, 15)
		was := fmt.Sprint(tokens.All(text))
		a, b := tokens.New(), tokens.New()
		for _, piece := range cutAnyhow(r, text) {
			for range r.Intn(3) {
				a.At()
			}
			la, ea := a.Feed(piece)
			lb, eb := b.Feed(piece)
			wantTokens(t, text, la, lb)
			wantErr(t, text, ea, eb)
		}
		tokens.All(someText(r, bits, 15))
		if again := fmt.Sprint(tokens.All(text)); again != was {
			t.Fatalf("%q: %s, then %s", text, was, again)
		}
	}
}
