package tokens_test

import (
	"math/rand"
	"regexp"
	"slices"
	"strings"

	"fulcrum/api"
)

// The chapter's words by regular expressions over whole texts: what All tells; and, by what a text is with one or another thing behind it, what is told of a text that has not ended.

const (
	letters = `a-zA-Z~!@$%^&*_\-+=<>.?/`
	bare    = `[` + letters + `][` + letters + `0-9]*`
	digits  = `(?:0|[1-9][0-9]*)`
)

var (
	gap        = regexp.MustCompile(`^(?:[\t\n\r ]|;[^\n\r]*)*`)
	gapWithin  = regexp.MustCompile(`^(?:[\t\n\r ]|;[^\n\r]*[\n\r])*$`)
	gapAtEnd   = regexp.MustCompile(`^(?:[\t\n\r ]|;[^\n\r]*[\n\r])*(?:;[^\n\r]*)?$`)
	symbolByte = regexp.MustCompile(`^[` + letters + `0-9]`)
	plainName  = regexp.MustCompile(`^` + bare + `$`)
	inBars     = regexp.MustCompile(`^\|[\t\n\r -\[\]-{}~\x{80}-\x{10FFFF}]*\|`)
	badInBars  = regexp.MustCompile(`[\x00-\x08\x0b\x0c\x0e-\x1f\x7f\\]`)
	inQuotes   = regexp.MustCompile(`^"(?:[\t\n\r !#-~\x{80}-\x{10FFFF}]|"")*"`)
	unquotable = regexp.MustCompile(`[\x00-\x08\x0b\x0c\x0e-\x1f\x7f]`)
)

// kinds are those that are told by the bytes that they are made of; head is how many of these are not of the Text. No symbol byte may stand right behind a number.
var kinds = []struct {
	kind, head int
	number     bool
	bytes      *regexp.Regexp
}{
	{api.TokOpen, 0, false, regexp.MustCompile(`^\(`)},
	{api.TokClose, 0, false, regexp.MustCompile(`^\)`)},
	{api.TokSymbol, 0, false, regexp.MustCompile(`^` + bare)},
	{api.TokKeyword, 1, false, regexp.MustCompile(`^:` + bare)},
	{api.TokNumeral, 0, true, regexp.MustCompile(`^` + digits)},
	{api.TokDecimal, 0, true, regexp.MustCompile(`^` + digits + `\.[0-9]+`)},
	{api.TokHex, 2, true, regexp.MustCompile(`^#x[0-9a-fA-F]+`)},
	{api.TokBinary, 2, true, regexp.MustCompile(`^#b[01]+`)},
}

// place is a place alone.
func place(text string, n int) api.Token {
	ahead := text[:n]
	return api.Token{Begin: n, End: n, Line: 1 + strings.Count(ahead, "\n"), Column: n - strings.LastIndexByte(ahead, '\n')}
}

// one is the token at the beginning of rest: its kind, its Text and how long it is; or the error, and how many bytes stand ahead of that.
func one(rest string) (kind int, text string, long int, e api.Errno, at int) {
	switch rest[0] {
	case '|':
		return oneInBars(rest)
	case '"':
		return oneInQuotes(rest)
	}
	number := false
	for _, k := range kinds {
		if m := k.bytes.FindString(rest); len(m) > long {
			kind, text, long, number = k.kind, m[k.head:], len(m), k.number
		}
	}
	if long == 0 || number && symbolByte.MatchString(rest[long:]) {
		return 0, "", 0, api.ErrToken, 0
	}
	return kind, text, long, api.OK, 0
}

func oneInBars(rest string) (int, string, int, api.Errno, int) {
	if m := inBars.FindString(rest); m != "" {
		return api.TokSymbol, m[1 : len(m)-1], len(m), api.OK, 0
	}
	return noEnd(rest, badInBars)
}

func oneInQuotes(rest string) (int, string, int, api.Errno, int) {
	if m := inQuotes.FindString(rest); m != "" && !strings.HasPrefix(rest[len(m):], `"`) {
		return api.TokString, strings.ReplaceAll(m[1:len(m)-1], `""`, `"`), len(m), api.OK, 0
	}
	return noEnd(rest, unquotable)
}

func noEnd(rest string, bad *regexp.Regexp) (int, string, int, api.Errno, int) {
	if at := bad.FindStringIndex(rest); at != nil {
		return 0, "", 0, api.ErrToken, at[0]
	}
	return 0, "", 0, api.ErrQuote, 0
}

// known is what All tells of a text.
type known struct {
	tokens []api.Token
	err    api.Errno
	at     api.Token
}

func ref(text string) known {
	var out known
	for n := len(gap.FindString(text)); n < len(text); n += len(gap.FindString(text[n:])) {
		kind, says, long, e, ahead := one(text[n:])
		if e != api.OK {
			out.err, out.at = e, place(text, n+ahead)
			return out
		}
		t := place(text, n)
		t.Kind, t.Text, t.End = kind, says, n+long
		out.tokens = append(out.tokens, t)
		n += long
	}
	return out
}

// soFar is what is told of a text of which more may come: the tokens, the error, and what At is then.
func soFar(text string) known {
	var out known
	whole, behind := ref(text), 0
	for _, t := range whole.tokens {
		atOnce := t.Kind == api.TokOpen || t.Kind == api.TokClose || text[t.Begin] == '|'
		if t.End < len(text) || atOnce {
			out.tokens = append(out.tokens, t)
			behind = t.End
		}
	}
	if isSure(text, whole) {
		out.err, out.at = whole.err, whole.at
		return out
	}
	out.at = place(text, behind+len(gap.FindString(text[behind:])))
	return out
}

// isSure tells whether the text has that error, whatever follows. (What can still become a token does so with one of these behind it.)
func isSure(text string, it known) bool {
	return it.err == api.ErrToken && !slices.ContainsFunc([]string{" ", "(", "0 ", "a ", "x0 ", "b0 ", `"`, `""`, "|", "\n"}, func(more string) bool {
		other := ref(text + more)
		return other.err != it.err || other.at != it.at
	})
}

// bits are of what texts are made, so that tokens, comments and what is wrong stand beside one another.
var bits = []string{
	"(", ")", "a", "x", "assert", "->", "|a b|", "||", "|\n|", "|", ":", ":named", "0", "7", "10", "1.50", "0.0", ".", "#", "#x", "#xaF", "#b", "#b01",
	`"`, `""`, `"a b"`, "\"a\n\"", ";", "; c", "\n", "\r", "\t", " ", " ", " ", " ", "é", "\xc3", "\u2028", "\ufffd", "\\", "\x01", "\x7f", "{", "'", ",",
}

// tame are those of which each one alone is right.
var tame = []string{"(", ")", "a", "->", "|a b|", "||", "|\n|", ":named", "0", "10", "1.50", "0.0", "#xaF", "#b01", `"a b"`, "\"a\n\"", `"a""é"`, "; c\n", ";\xc3\r", "\n", "\r", "\t", " ", " ", " ", " ", " ", " ", " ", " "}

// someText is up to most of the bits, one behind the other.
func someText(r *rand.Rand, of []string, most int) string {
	var out strings.Builder
	for range r.Intn(most + 1) {
		out.WriteString(of[r.Intn(len(of))])
	}
	return out.String()
}

// cutAnyhow is a text in pieces, of which some are empty.
func cutAnyhow(r *rand.Rand, text string) []string {
	var out []string
	for text != "" {
		n := r.Intn(min(len(text), 1+r.Intn(9)) + 1)
		out = append(out, text[:n])
		text = text[n:]
	}
	return append(out, "")
}

func cutBytes(text string) []string {
	var out []string
	for i := range len(text) {
		out = append(out, text[i:i+1])
	}
	return out
}

// eachText hands on all texts of so many bits.
func eachText(of []string, long int, do func(text string)) {
	eachBehind("", of, long, do)
}

func eachBehind(head string, of []string, long int, do func(text string)) {
	if long == 0 {
		do(head)
		return
	}
	for _, b := range of {
		eachBehind(head+b, of, long-1, do)
	}
}
