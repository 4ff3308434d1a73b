package tokens_test

import (
	"math/rand"
	"strconv"
	"strings"
	"testing"

	"fulcrum/api"
	"fulcrum/tokens"
)

// eachName hands on names of any bytes: each byte alone, ahead of others and behind them, all short ones of some bits, and drawn ones.
func eachName(do func(name string)) {
	for n := range 256 {
		b := string([]byte{byte(n)})
		for _, beside := range []string{"", "a", "1", ".", " ", "|", "\\", "\x01", "é", "\xc3"} {
			do(b + beside)
			do(beside + b)
			do(beside + b + beside)
		}
	}
	for long := range 4 {
		eachText(someBits, long, do)
	}
	r := rand.New(rand.NewSource(2))
	for range 2000 {
		do(someText(r, bits, 8))
		some := make([]byte, r.Intn(12))
		r.Read(some)
		do(string(some))
	}
}

// hasByte tells whether one of the bytes is such.
func hasByte(text string, isSuch func(b byte) bool) bool {
	for i := range len(text) {
		if isSuch(text[i]) {
			return true
		}
	}
	return false
}

func isNoSymbolByte(b byte) bool { return !isSymbolByte(b) }

func mayNotBeQuoted(b byte) bool { return !mayBeQuoted(b) }

func TestK2Plain(t *testing.T) {
	eachName(func(name string) {
		want := name != "" && !hasByte(name, isNoSymbolByte) && (name[0] < '0' || name[0] > '9')
		if tokens.Plain(name) != want {
			t.Fatalf("Plain(%q) is not %v", name, want)
		}
	})
}

func TestK2Symbol(t *testing.T) {
	eachName(func(name string) {
		got, e := tokens.Symbol(name)
		what := "Symbol of " + strconv.Quote(name)
		switch {
		case plainName.MatchString(name):
			wantErr(t, what, e, api.OK)
			wantText(t, what, got, name)
		case hasByte(name, mayNotBeQuoted) || strings.ContainsAny(name, `|\`):
			wantErr(t, what, e, api.ErrPlain)
			wantText(t, what, got, "")
		default:
			wantErr(t, what, e, api.OK)
			wantText(t, what, got, "|"+name+"|")
		}
	})
}

// A name is read as it was written; one in bars and one without are the same symbol.
func TestK2NamesAreReadAgain(t *testing.T) {
	eachName(func(name string) {
		text, e := tokens.Symbol(name)
		if e != api.OK {
			return
		}
		for _, text := range []string{text, "|" + name + "|"} {
			l, e, _ := tokens.All(text)
			wantErr(t, text, e, api.OK)
			wantTokens(t, text, noPlaces(l), []api.Token{symbol(name)})
		}
	})
}

func TestK2Reserved(t *testing.T) {
	words := strings.Fields("! _ as BINARY DECIMAL exists forall HEXADECIMAL let match NUMERAL par STRING")
	is := map[string]bool{}
	for _, w := range words {
		is[w] = true
	}
	check := func(name string) {
		t.Helper()
		if tokens.Reserved(name) != is[name] {
			t.Fatalf("Reserved(%q) is not %v", name, is[name])
		}
	}
	for _, w := range words {
		check(w)
		for _, other := range []string{strings.ToLower(w), strings.ToUpper(w), w + " ", " " + w, "|" + w + "|", ":" + w, w + w, w[1:], w + "\x00", w[:len(w)-1]} {
			check(other)
		}
		if !tokens.Plain(w) {
			t.Errorf("%s is a symbol", w)
		}
		text, e := tokens.Symbol(w)
		wantErr(t, w, e, api.OK)
		wantText(t, w, text, w)
	}
	for _, w := range []string{"", "assert", "and", "true", "Real", "NUMERALS", "set-logic", "ite", "continued-execution", "exist", "for"} {
		check(w)
	}
	eachName(check)
}
