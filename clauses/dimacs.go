package clauses

import (
	"strconv"
	"strings"

	"fulcrum/api"
)

const (
	headMark    = "p"
	headForm    = "cnf"
	commentMark = "c"
	minus       = "-"
	mostDigits  = 9
)

// written is clauses as a text.
func written(atoms int, l []api.Clause) string {
	out := []byte(headMark + " " + headForm + " ")
	out = strconv.AppendInt(out, int64(atoms), 10)
	out = append(out, ' ')
	out = strconv.AppendInt(out, int64(len(l)), 10)
	out = append(out, '\n')
	for _, c := range l {
		for _, lit := range c {
			out = strconv.AppendInt(out, int64(lit), 10)
			out = append(out, ' ')
		}
		out = append(out, '0', '\n')
	}
	return string(out)
}

// reader takes a text line by line, up to the first one in which something is wrong.
type reader struct {
	headed  bool
	atoms   int // what the head line says
	count   int
	clauses []api.Clause
	open    api.Clause // the clause that has not ended
	wrong   bool
}

// read tells the line that was looked at last.
func (r *reader) read(text string) int {
	at := 0
	for line := range strings.Lines(text) {
		at++
		r.take(strings.TrimSuffix(line, "\n"))
		if r.wrong {
			return at
		}
	}
	r.wrong = !r.headed || len(r.open) > 0 || len(r.clauses) < r.count
	return at
}

func (r *reader) take(line string) {
	if strings.HasPrefix(line, commentMark) {
		return
	}
	words := strings.FieldsFunc(line, isBlank)
	switch {
	case len(words) == 0:
		return
	case !r.headed:
		r.takeHead(words)
	default:
		r.takeNumbers(words)
	}
}

func isBlank(c rune) bool {
	return c == ' ' || c == '\t' || c == '\r'
}

func (r *reader) takeHead(words []string) {
	if len(words) != 4 || words[0] != headMark || words[1] != headForm {
		r.wrong = true
		return
	}
	atoms, ok := number(words[2])
	count, well := number(words[3])
	r.headed, r.atoms, r.count = true, atoms, count
	r.wrong = !ok || !well || atoms < 0 || count < 0
}

func (r *reader) takeNumbers(words []string) {
	for _, word := range words {
		n, ok := number(word)
		switch {
		case !ok || atomOf(n) > r.atoms:
			r.wrong = true
			return
		case n != 0:
			r.open = append(r.open, n)
		case len(r.clauses) == r.count:
			r.wrong = true
			return
		default:
			r.clauses = append(r.clauses, r.open)
			r.open = nil
		}
	}
}

// number is what a word says: perhaps a sign, and a few digits.
func number(word string) (int, bool) {
	digits := strings.TrimPrefix(word, minus)
	if len(digits) == 0 || len(digits) > mostDigits {
		return 0, false
	}
	n := 0
	for i := range len(digits) {
		digit := digits[i]
		if digit < '0' || digit > '9' {
			return 0, false
		}
		n = 10*n + int(digit-'0')
	}
	if len(digits) < len(word) {
		return -n, true
	}
	return n, true
}
