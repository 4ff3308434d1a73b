package sexpr_test

import (
	"testing"

	"fulcrum/api"
	"fulcrum/sexpr"
)

// The chapter's five examples.

func TestExample1(t *testing.T) {
	l, e, place := sexpr.Read("(a (b 1.5)) c")
	wantErr(t, "Read", e, api.OK)
	wantNumber(t, "the place", place, 0)
	inner := at(list(at(symbol("b"), 4, 5), at(token(api.TokDecimal, "1.5"), 6, 9)), 3, 10)
	wantNodes(t, "Read", l, []api.Node{at(list(at(symbol("a"), 1, 2), inner), 0, 11), at(symbol("c"), 12, 13)})
}

func TestExample2(t *testing.T) {
	wantRead(t, "a) b", known{whole: []api.Node{at(symbol("a"), 0, 1)}, err: api.ErrParen, place: 1})
	wantRead(t, "x (a (b", known{whole: []api.Node{at(symbol("x"), 0, 1)}, err: api.ErrEnd, place: 2})
	wantRead(t, "()", known{whole: []api.Node{at(list(), 0, 2)}})
	l, _, _ := sexpr.Read("()")
	wantNumber(t, "Size", sexpr.Size(l[0]), 2)
}

func TestExample3(t *testing.T) {
	text, e := sexpr.Print(list(symbol("a"), symbol("b c"), str("q")))
	wantErr(t, "Print", e, api.OK)
	wantText(t, "Print", text, `(a |b c| "q")`)
}

func TestExample4(t *testing.T) {
	r := sexpr.NewReader()
	l, e := r.Feed("(a b")
	wantErr(t, "Feed", e, api.OK)
	wantSays(t, "Feed", l, "")
	wantNumber(t, "Depth", r.Depth(), 1)
	l, e = r.Feed("c)(d)e")
	wantErr(t, "Feed", e, api.OK)
	wantSays(t, "Feed", l, "(a bc) · (d)")
	l, e = r.Feed(" ")
	wantErr(t, "Feed", e, api.OK)
	wantSays(t, "Feed", l, "e")
	l, e, place := r.End()
	wantErr(t, "End", e, api.OK)
	wantSays(t, "End", l, "")
	wantNumber(t, "End", place, 0)
}

func TestExample5(t *testing.T) {
	r := sexpr.NewReader()
	for _, piece := range []string{")", "a"} {
		l, e := r.Feed(piece)
		wantErr(t, piece, e, api.ErrParen)
		wantNodes(t, piece, l, nil)
	}
	l, e, place := r.End()
	wantErr(t, "End", e, api.ErrParen)
	wantNodes(t, "End", l, nil)
	wantNumber(t, "End", place, 0)
}
