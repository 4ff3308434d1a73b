package sexpr_test

import (
	"fmt"
	"math/rand"
	"runtime"
	"strings"
	"sync"
	"testing"
	"unsafe"
	"weak"

	"fulcrum/api"
	"fulcrum/sexpr"
)

// lent is a text in memory that its owner can write over.
func lent(text string) (string, []byte) {
	room := []byte(text)
	return unsafe.String(unsafe.SliceData(room), len(room)), room
}

func spoil(room []byte) {
	for i := range room {
		room[i] = '?'
	}
}

// lists are all lists of nodes in some nodes, each with the room behind its end.
func lists(l []api.Node) [][]api.Node {
	out := [][]api.Node{l[:cap(l)]}
	for _, n := range l {
		out = append(out, lists(n.Kids)...)
	}
	return out
}

// spoilNodes writes over all lists in some nodes, and the room behind their ends.
func spoilNodes(l []api.Node) {
	for _, room := range lists(l) {
		for i := range room {
			room[i] = api.Node{Token: api.Token{Kind: 77, Text: "spoilt", Begin: -1, End: -1, Line: -1, Column: -1}, Kids: []api.Node{{}}}
		}
	}
}

// copied is some nodes in other memory.
func copied(l []api.Node) []api.Node {
	return twin(api.Node{Kids: l}).Kids
}

// A panic would end the test, and so would a call that does not end: any bytes, and any nodes.
func TestR1AnyBytes(t *testing.T) {
	r := rand.New(rand.NewSource(11))
	for range 10000 {
		some := make([]byte, r.Intn(40))
		r.Read(some)
		for i := range some {
			if r.Intn(3) == 0 {
				some[i] = "()"[r.Intn(2)]
			}
		}
		text := string(some)
		wantRead(t, text, ref(text))
		wantTogether(t, cutAnyhow(r, text), ref(text))
		n := wild(r, 3)
		n.Token.Text = text
		sexpr.Print(n)
		sexpr.Same(n, wild(r, 3))
		sexpr.Size(n)
	}
}

// Long texts are read soon, whole and a byte at a time: many tokens, many lists beside one another and in one another, long tokens.
func TestR1LongTexts(t *testing.T) {
	const many = 1 << 17
	for _, text := range []string{
		strings.Repeat("a ", many), strings.Repeat("()", many), strings.Repeat("(a (b))\n", many/4), "(" + strings.Repeat("() ", many) + ")", strings.Repeat(opens(1000)+shuts(1000), 100), opens(999) + strings.Repeat("(a)", many) + shuts(999),
		"(" + strings.Repeat("a", many) + ")", "(|" + strings.Repeat("a\n", many) + "|)", "(\"" + strings.Repeat("()", many) + "\")", "(;" + strings.Repeat("(", many) + "\n)", strings.Repeat("\n", many), strings.Repeat("(", many), strings.Repeat(")", many),
	} {
		l, e, place := sexpr.Read(text)
		wantTogether(t, cutBytes(text), known{whole: l, err: e, place: place})
		for _, n := range l {
			if out, e := sexpr.Print(n); e != api.OK || out == "" || sexpr.Size(n) < 1 || !sexpr.Same(n, n) {
				t.Fatalf("Print of a long one: %d", e)
			}
		}
	}
}

// A node whose lists are its own kids' lists is beyond what is promised; that it is too deep is told all the same.
func TestR1WithinItself(t *testing.T) {
	kids := make([]api.Node, 2)
	kids[0], kids[1] = api.Node{Kids: kids}, symbol("a")
	wantPrint(t, kids[0], "", api.ErrNested)
}

// Beside an error there is nothing but what the chapter says, and without one no place.
func TestR2BesideAnError(t *testing.T) {
	r := rand.New(rand.NewSource(2))
	for range 5000 {
		text := someText(r, bits, 20)
		l, e, place := sexpr.Read(text)
		if e == api.OK && place != 0 {
			t.Fatalf("Read(%q): the place %d", text, place)
		}
		for _, n := range l {
			if e != api.OK && n.Token.End > place {
				t.Fatalf("Read(%q): %+v behind %d", text, n, place)
			}
		}
		if out, e := sexpr.Print(wild(r, 3)); e != api.OK && out != "" {
			t.Fatalf("Print: %q beside %d", out, e)
		}
	}
}

// What is handed in is not changed, nor is the room behind a list's end, and that counts for nothing.
func TestR3NodesAreNotChanged(t *testing.T) {
	r := rand.New(rand.NewSource(3))
	for range 5000 {
		a, b := twin(wild(r, 4)), twin(mild(r, 4))
		all := append(lists(a.Kids), lists(b.Kids)...)
		var was []string
		for _, l := range all {
			was = append(was, fulls(l))
		}
		for _, n := range []api.Node{a, b} {
			text, e := sexpr.Print(n)
			want, wanted := written(n)
			wantErr(t, "Print", e, wanted)
			wantText(t, "Print", text, want)
			wantNumber(t, "Size", sexpr.Size(n), count(n))
			sexpr.Same(a, n)
		}
		for i, l := range all {
			wantText(t, "what was handed in", fulls(l), was[i])
		}
	}
}

// A text that is handed in is not kept, and no answer is a piece of it.
func TestR3TextsAreNotKept(t *testing.T) {
	for _, s := range samples {
		for _, around := range []string{"%s", "(%s)", "((%s) b) c", "(%s", "%s)", "(%s) 00"} {
			in := fmt.Sprintf(around, s.text)
			text, room := lent(in)
			l, e, _ := sexpr.Read(text)
			spoil(room)
			want := ref(in)
			wantErr(t, in, e, want.err)
			wantNodes(t, in, l, want.whole)
		}
		text, room := lent(s.is.Token.Text)
		n := token(s.is.Token.Kind, text)
		out, e := sexpr.Print(n)
		inList, _ := sexpr.Print(list(n))
		spoil(room)
		wantErr(t, s.text, e, api.OK)
		wantText(t, s.text, out, s.text)
		wantText(t, s.text, inList, "("+s.text+")")
	}
}

// Pieces that are written over, and answers that their owner changes: the reader goes on, and other answers stay.
func TestR3PiecesAndAnswers(t *testing.T) {
	r := rand.New(rand.NewSource(33))
	for range 2000 {
		text := goodText(r, 60)
		if r.Intn(3) == 0 {
			text = someText(r, bits, 30)
		}
		want := ref(text)
		reader := sexpr.NewReader()
		var kept []api.Node
		tell := func(l []api.Node) {
			kept = append(kept, copied(l)...)
			spoilNodes(l)
		}
		var rooms [][]byte
		for _, p := range cutAnyhow(r, text) {
			piece, room := lent(p)
			rooms = append(rooms, room)
			l, _ := reader.Feed(piece)
			tell(l)
			if r.Intn(2) == 0 {
				spoil(room)
			}
		}
		l, e, place := reader.End()
		tell(l)
		for _, room := range rooms {
			spoil(room)
		}
		wantNodes(t, text, kept, want.whole)
		wantErr(t, text, e, want.err)
		wantNumber(t, text, place, want.place)
	}
}

// No two lists of an answer, and no two answers, share memory, the spare room neither.
func TestR3AnswersAreNewMemory(t *testing.T) {
	r := rand.New(rand.NewSource(34))
	for range 2000 {
		text := goodText(r, 60)
		var all [][]api.Node
		for range 2 {
			l, _, _ := sexpr.Read(text)
			all = append(all, lists(l)...)
		}
		reader := sexpr.NewReader()
		for _, piece := range cutAnyhow(r, text) {
			l, _ := reader.Feed(piece)
			all = append(all, lists(l)...)
		}
		l, _, _ := reader.End()
		all = append(all, lists(l)...)
		for mark, room := range all {
			for i := range room {
				room[i].Token.Begin = mark
			}
		}
		for mark, room := range all {
			for i := range room {
				wantNumber(t, text, room[i].Token.Begin, mark)
			}
		}
	}
}

// What was told is not kept, not in the reader's spare room either: it is gone when its owner lets go of it.
func TestR3WhatWasToldIsNotKept(t *testing.T) {
	r := sexpr.NewReader()
	for _, piece := range []string{"((a) b) ", "((c) d) (e (f", ") (g)) ", "(h) (i (j", ")) \\"} {
		told := toldKids(r, piece)
		runtime.GC()
		if told.Value() != nil {
			t.Fatalf("behind %q the reader keeps what it told", piece)
		}
	}
	runtime.KeepAlive(r)
}

// toldKids is the kids of the first list that is told of a piece, without a hold on them.
func toldKids(r *sexpr.Reader, piece string) weak.Pointer[api.Node] {
	l, _ := r.Feed(piece)
	return weak.Make(&l[0].Kids[0])
}

// Readers that are fed in turn, or beside one another, tell what they tell alone.
func TestR4ReadersKnowNothingOfOneAnother(t *testing.T) {
	r := rand.New(rand.NewSource(4))
	for range 500 {
		var pieces [3][]string
		var readers [3]*sexpr.Reader
		var alone, told [3]string
		longest := 0
		for i := range pieces {
			pieces[i] = cutAnyhow(r, someText(r, tame, 30))
			longest = max(longest, len(pieces[i]))
			alone[i] = talk(sexpr.NewReader(), pieces[i])
			readers[i] = sexpr.NewReader()
		}
		for n := range longest {
			for i, reader := range readers {
				if n < len(pieces[i]) {
					told[i] += talk(reader, pieces[i][n:n+1])
				}
			}
		}
		if told != alone {
			t.Fatalf("%q: %v in turn, %v alone", pieces, told, alone)
		}
		var wait sync.WaitGroup
		for i := range pieces {
			wait.Go(func() {
				if again := talk(sexpr.NewReader(), pieces[i]); again != alone[i] {
					t.Errorf("%q: %s, then %s", pieces[i], alone[i], again)
				}
			})
		}
		wait.Wait()
	}
}

// talk is all that a reader tells of some pieces.
func talk(r *sexpr.Reader, pieces []string) string {
	var out strings.Builder
	for _, piece := range pieces {
		l, e := r.Feed(piece)
		fmt.Fprintf(&out, "%s %d %d;", fulls(l), e, r.Depth())
	}
	return out.String()
}

// The same call answers the same, whatever was asked ahead of it; Depth changes nothing.
func TestR4TheSameAgain(t *testing.T) {
	r := rand.New(rand.NewSource(44))
	for range 2000 {
		text, n := someText(r, bits, 15), wild(r, 3)
		was, printed := fmt.Sprint(sexpr.Read(text)), fmt.Sprint(sexpr.Print(n))
		a, b := sexpr.NewReader(), sexpr.NewReader()
		for _, piece := range cutAnyhow(r, text) {
			for range r.Intn(3) {
				a.Depth()
			}
			la, ea := a.Feed(piece)
			lb, eb := b.Feed(piece)
			wantNodes(t, text, la, lb)
			wantErr(t, text, ea, eb)
		}
		sexpr.Read(someText(r, bits, 15))
		sexpr.Print(wild(r, 3))
		wantText(t, text, fmt.Sprint(sexpr.Read(text)), was)
		wantText(t, text, fmt.Sprint(sexpr.Print(n)), printed)
	}
}
