package sexpr_test

import (
	"math/rand"
	"strings"
	"testing"

	"fulcrum/api"
	"fulcrum/sexpr"
)

func TestX1TextsWithoutAny(t *testing.T) {
	for _, text := range []string{"", " ", "\t", "\n", "\r", " \t\r\n ", ";", "; a", "; (\n", "; )\r", "; \"\n; |\n", "  ; a\n\t; \x00é\\"} {
		wantRead(t, text, known{})
	}
}

// Each token alone, in a list, in lists, beside lists, and one behind the other.
func TestX1EachToken(t *testing.T) {
	for _, s := range samples {
		n := len(s.text)
		alone := at(s.is, 0, n)
		wantRead(t, s.text, known{whole: []api.Node{alone}})
		wantRead(t, s.text+" ; )", known{whole: []api.Node{alone}})
		wantRead(t, "("+s.text+")", known{whole: []api.Node{at(list(at(s.is, 1, 1+n)), 0, n+2)}})
		wantRead(t, "(("+s.text+"))", known{whole: []api.Node{at(list(at(list(at(s.is, 2, 2+n)), 1, n+3)), 0, n+4)}})
		wantRead(t, "()"+s.text+"()", known{whole: []api.Node{at(list(), 0, 2), at(s.is, 2, 2+n), at(list(), 2+n, 4+n)}})
		for _, other := range samples {
			m := len(other.text)
			wantRead(t, s.text+" "+other.text, known{whole: []api.Node{alone, at(other.is, n+1, n+1+m)}})
			wantRead(t, "("+s.text+" "+other.text+")", known{whole: []api.Node{at(list(at(s.is, 1, 1+n), at(other.is, n+2, n+2+m)), 0, n+m+3)}})
		}
	}
}

func TestX1Lists(t *testing.T) {
	for text, want := range map[string][]api.Node{
		"()":           {list()},
		"( )":          {list()},
		"( ; )\n)":     {list()},
		"()()":         {list(), list()},
		"(()())":       {list(list(), list())},
		"((()))":       {list(list(list()))},
		"(a)(b)c":      {list(symbol("a")), list(symbol("b")), symbol("c")},
		"((a)b)":       {list(list(symbol("a")), symbol("b"))},
		"(a(b))":       {list(symbol("a"), list(symbol("b")))},
		"(a(b)c)":      {list(symbol("a"), list(symbol("b")), symbol("c"))},
		"((a)(b c)d)e": {list(list(symbol("a")), list(symbol("b"), symbol("c")), symbol("d")), symbol("e")},
		"a()b":         {symbol("a"), list(), symbol("b")},
		"(|(| \")\")":  {list(symbol("("), str(")"))},
		"(a;)\nb)":     {list(symbol("a"), symbol("b"))},
	} {
		l, e, place := sexpr.Read(text)
		wantErr(t, text, e, api.OK)
		wantNumber(t, text, place, 0)
		wantText(t, text, flat(list(l...)), flat(list(want...)))
	}
}

// Where lists and what is in them stand, over lines; what ends a list is the place behind its closing bracket, wherever that is.
func TestX1Places(t *testing.T) {
	l, e, _ := sexpr.Read(" (a\n\t(|b\n|) ; (\r\n)\nc\n ( )")
	wantErr(t, "Read", e, api.OK)
	where := func(n api.Node, begin, end, line, column int) api.Node {
		n.Token.Begin, n.Token.End, n.Token.Line, n.Token.Column = begin, end, line, column
		return n
	}
	inner := where(list(where(symbol("b\n"), 6, 10, 2, 3)), 5, 11, 2, 2)
	wantNodes(t, "Read", l, []api.Node{
		where(list(where(symbol("a"), 2, 3, 1, 3), inner), 1, 18, 1, 2), where(symbol("c"), 19, 20, 5, 1), where(list(), 22, 25, 6, 2),
	})

	l, e, _ = sexpr.Read("(\n(\n)\n(\n\n) ) (\r)")
	wantErr(t, "Read", e, api.OK)
	wantNodes(t, "Read", l, []api.Node{where(list(where(list(), 2, 5, 2, 1), where(list(), 6, 10, 4, 1)), 0, 12, 1, 1), where(list(), 13, 16, 6, 5)})
	for _, n := range l {
		if n.Token.Kind != api.TokNone || n.Token.Text != "" {
			t.Fatalf("%+v", n)
		}
	}
}

// Each error of layer 12, outside of lists, in them, and behind them; what is whole ahead of it is told.
func TestX1ErrorsOfTokens(t *testing.T) {
	for _, f := range faults {
		for head, want := range map[string]string{
			"": "", " ": "", "a ": "a", "a (b) ": "a · (b)", "(": "", "(a ": "", "((": "", "(a (b) ": "", "x (a (b (c) ": "x", "(a) () ((b)": "(a) · ()", "\n; (\n(\n": "",
		} {
			for _, more := range []string{"", ")", " )", " (", "\\"} {
				text := head + f.text + more
				if f.atEnd && more != "" {
					continue
				}
				l, e, place := sexpr.Read(text)
				wantErr(t, text, e, f.err)
				wantNumber(t, text, place, len(head)+f.ahead)
				wantSays(t, text, l, want)
			}
		}
	}
}

// A closing bracket too many, whatever follows it.
func TestX1ClosingBrackets(t *testing.T) {
	for head, want := range map[string]string{
		"": "", " ": "", "; )\n": "", "a": "a", "a ": "a", "()": "()", "(a)": "(a)", "(a) (b c) ": "(a) · (b c)", "((a))": "((a))", "((a)(b)) c": "((a) (b)) · c", "|)|": "|)|", "\")\"": "\")\"", opens(1000) + shuts(1000): opens(1000) + shuts(1000),
	} {
		for _, more := range []string{"", ")", "))", " a", "(", "()", " \\", "\"", " 00", opens(1001), "\x00"} {
			l, e, place := sexpr.Read(head + ")" + more)
			wantErr(t, head+")"+more, e, api.ErrParen)
			wantNumber(t, head+")"+more, place, len(head))
			wantSays(t, head+")"+more, l, want)
		}
	}
}

// Lists that are not closed: the place of the outermost one that is not.
func TestX1ListsThatAreNotClosed(t *testing.T) {
	for _, c := range []struct {
		text  string
		place int
		want  string
	}{
		{"(", 0, ""}, {" (", 1, ""}, {"(a", 0, ""}, {"((", 0, ""}, {"(()", 0, ""}, {"(a (b)", 0, ""}, {"(a (b", 0, ""}, {"(a (b) (c", 0, ""},
		{"x (", 2, "x"}, {"x(", 1, "x"}, {"x (a (b) c", 2, "x"}, {"() (", 3, "()"}, {"(a) x ((b) ()", 6, "(a) · x"}, {"(a)\n(b)\n\n(c\n(d", 9, "(a) · (b)"}, {"()()()(", 6, "() · () · ()"},
		{"( ; )", 0, ""}, {"(|)|", 0, ""}, {"(\")\"", 0, ""}, {"(a\n; )\n", 0, ""}, {opens(1000), 0, ""}, {"x " + opens(1000) + shuts(999), 2, "x"}, {opens(1000) + shuts(1000) + "(", 2000, opens(1000) + shuts(1000)},
	} {
		l, e, place := sexpr.Read(c.text)
		wantErr(t, c.text, e, api.ErrEnd)
		wantNumber(t, c.text, place, c.place)
		wantSays(t, c.text, l, c.want)
	}
}

// 1000 lists in one another are read, another one is not; it does not matter whether they are closed, nor how many there were that are closed.
func TestX1Nested(t *testing.T) {
	const most = api.MaxNested
	for _, c := range []struct {
		text  string
		err   api.Errno
		place int
		whole int
	}{
		{opens(most) + shuts(most), api.OK, 0, 1},
		{opens(most) + "a" + shuts(most) + "b", api.OK, 0, 2},
		{opens(most) + shuts(most) + opens(most) + shuts(most), api.OK, 0, 2},
		{opens(most-1) + strings.Repeat("()", most) + shuts(most-1), api.OK, 0, 1},
		{opens(most), api.ErrEnd, 0, 0},
		{opens(most) + "\"", api.ErrQuote, most, 0},
		{opens(most) + "(", api.ErrNested, most, 0},
		{opens(most) + "()" + shuts(most), api.ErrNested, most, 0},
		{opens(most + 1), api.ErrNested, most, 0},
		{opens(most+1) + shuts(most+1), api.ErrNested, most, 0},
		{opens(2*most) + shuts(2*most), api.ErrNested, most, 0},
		{"a (b) " + opens(most) + " (", api.ErrNested, most + 7, 2},
		{opens(most) + ")()", api.ErrEnd, 0, 0},
		{opens(most) + ")((", api.ErrNested, most + 2, 0},
		{opens(most) + "( 00", api.ErrNested, most, 0},
		{opens(most) + "00 (", api.ErrToken, most, 0},
		{opens(most) + shuts(most) + ")", api.ErrParen, 2 * most, 1},
		{opens(most) + shuts(most+1) + opens(most+1), api.ErrParen, 2 * most, 1},
	} {
		l, e, place := sexpr.Read(c.text)
		wantErr(t, c.text, e, c.err)
		wantNumber(t, c.text, place, c.place)
		wantNumber(t, c.text, len(l), c.whole)
		wantRead(t, c.text, ref(c.text))
	}
}

// someBits are one byte of each sort.
var someBits = []string{"(", ")", "a", " ", "0", `"`, "|", ";", "\n", "\\"}

func TestX1AllShortTexts(t *testing.T) {
	for long := range 6 {
		eachText(someBits, long, func(text string) { wantRead(t, text, ref(text)) })
	}
	for long := range 13 {
		eachText([]string{"(", ")"}, long, func(text string) { wantRead(t, text, ref(text)) })
	}
	for long := range 9 {
		eachText([]string{"(", ")", "a ", "\\"}, long, func(text string) { wantRead(t, text, ref(text)) })
	}
}

func TestX1LongerTexts(t *testing.T) {
	r := rand.New(rand.NewSource(1))
	for range 5000 {
		for _, text := range []string{someText(r, bits, 30), someText(r, tame, 30), goodText(r, 60)} {
			wantRead(t, text, ref(text))
		}
	}
}
