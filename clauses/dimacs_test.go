package clauses_test

import (
	"fmt"
	"math/rand"
	"strings"
	"testing"

	"fulcrum/api"
	"fulcrum/clauses"
)

func TestC3Dimacs(t *testing.T) {
	wantDimacs(t, 3, list(lits(1, -2), lits(3)), "p cnf 3 2\n1 -2 0\n3 0\n")
	wantDimacs(t, 12, list(lits(-12, 7, 7, -12)), "p cnf 12 1\n-12 7 7 -12 0\n") // as they stand
	wantDimacs(t, 2, list(lits(2, -2), lits(2, -2)), "p cnf 2 2\n2 -2 0\n2 -2 0\n")
	wantDimacs(t, 1000, list(lits(10, -100, 1000)), "p cnf 1000 1\n10 -100 1000 0\n")
	wantDimacs(t, most, list(lits(most, least)), "p cnf 9223372036854775807 1\n9223372036854775807 -9223372036854775807 0\n")
}

func TestC3DimacsOfNothing(t *testing.T) {
	wantDimacs(t, 0, nil, "p cnf 0 0\n")
	wantDimacs(t, 0, list(), "p cnf 0 0\n")
	wantDimacs(t, 7, nil, "p cnf 7 0\n")
	wantDimacs(t, 0, list(nil), "p cnf 0 1\n0\n")
	wantDimacs(t, 0, list(lits(), nil, lits()), "p cnf 0 3\n0\n0\n0\n")
	wantDimacs(t, 5, list(lits(), lits(5), nil), "p cnf 5 3\n0\n5 0\n0\n")
}

func TestC3DimacsOfWhatMayNotBe(t *testing.T) {
	for _, atoms := range []int{-1, -2, least, under} {
		wantNoDimacs(t, atoms, nil)
		wantNoDimacs(t, atoms, list(nil))
		wantNoDimacs(t, atoms, list(lits(1)))
		wantNoDimacs(t, atoms, list(lits(atoms)))
	}
	for _, l := range [][]api.Clause{{{0}}, {{under}}, {{1, 2, 0}}, {{1}, {}, {2, under, 1}}, {{3}}, {{-3}}, {{1, 2}, {1, -2, -3}}, {{most}}, {{least}}} {
		wantNoDimacs(t, 2, l)
	}
	wantNoDimacs(t, 0, list(lits(1)))
	wantNoDimacs(t, 0, list(lits(-1)))
	wantNoDimacs(t, most, list(lits(0)))
	wantNoDimacs(t, most, list(lits(under)))
	wantNoDimacs(t, most-1, list(lits(least)))
	wantDimacs(t, 2, list(lits(2), lits(-2)), "p cnf 2 2\n2 0\n-2 0\n") // what is not above may be
}

func TestC3DimacsOfAny(t *testing.T) {
	r := rand.New(rand.NewSource(183))
	for range 2000 {
		atoms := 1 + r.Intn(200)
		var l []api.Clause
		for range r.Intn(6) {
			l = append(l, drawn(r, atoms, 5))
		}
		want := fmt.Sprintf("p cnf %d %d\n", atoms, len(l))
		for _, c := range l {
			for _, lit := range c {
				want += fmt.Sprintf("%d ", lit)
			}
			want += "0\n"
		}
		wantDimacs(t, atoms, l, want)
	}
}

func TestC4Parse(t *testing.T) {
	wantParse(t, "p cnf 0 0\n", 0, nil)
	wantParse(t, "p cnf 7 0", 7, nil)
	wantParse(t, "p cnf 3 2\n1 -2 0\n3 0\n", 3, list(lits(1, -2), lits(3)))
	wantParse(t, "p cnf 2 1\n2 -1 2 1 0\n", 2, list(lits(2, -1, 2, 1))) // as they stand
	wantParse(t, "p cnf 2 3\n0\n0\n0\n", 2, list(nil, nil, nil))
	wantParse(t, "p cnf 0 1\n0", 0, list(nil))
}

func TestC4ParseOfTheEmptyText(t *testing.T) {
	wantNoParse(t, "", 0)
	wantNoParse(t, "\n", 1)
	wantNoParse(t, "\n\n\n", 3)
	wantNoParse(t, "\n ", 2)
}

func TestC4ParseOfTheLastLine(t *testing.T) {
	wantParse(t, "p cnf 1 1\n1 0", 1, list(lits(1)))
	wantParse(t, "p cnf 1 1\n1 0\n", 1, list(lits(1)))
	wantParse(t, "p cnf 1 1\n1 0\n\n\n", 1, list(lits(1)))
	wantParse(t, "p cnf 1 1\n1 0\n ", 1, list(lits(1)))
	wantParse(t, "p cnf 1 1\n1 0\nc", 1, list(lits(1)))
}

func TestC4ParseOfLinesThatCountForNothing(t *testing.T) {
	wantParse(t, "c\np cnf 1 1\n1 0\n", 1, list(lits(1)))
	wantParse(t, "c x y\ncnf\nc0 0\n\n \t\r\n\np cnf 1 1\n1 0\n", 1, list(lits(1)))
	wantParse(t, "p cnf 2 2\nc 1 0\n1\nc 2 0\n\n \t \r\n-2 0\ncp cnf 9 9\n2 0\nc", 2, list(lits(1, -2), lits(2)))
	wantParse(t, "\r\np cnf 1 1\r\n1 0\r\n", 1, list(lits(1)))
	wantParse(t, "c \xff\x00\np cnf 0 0\nc\xff", 0, nil)
	wantNoParse(t, "c", 1)
	wantNoParse(t, "c\nc\n", 2)
	wantNoParse(t, " \t\r", 1)
	wantNoParse(t, " c\np cnf 0 0\n", 1) // a comment's first byte is its c
	wantNoParse(t, "p cnf 1 1\n c\n1 0\n", 2)
	wantNoParse(t, "p cnf 1 1\n1 0 c\n", 2)
	wantNoParse(t, "p cnf 0 0\nC\n", 2)
}

func TestC4ParseOfHeadLines(t *testing.T) {
	for _, head := range []string{"p cnf 2 1", " p cnf 2 1", "\tp\tcnf\r2 \t 1  ", "p cnf 002 01", "p  cnf  2  000000001", "p cnf 2 1\r"} {
		wantParse(t, head+"\n-2 0\n", 2, list(lits(-2)))
	}
	wantParse(t, "p cnf -0 -0\n", 0, nil)
	wantParse(t, "p cnf -00 0", 0, nil)
	wantParse(t, "p cnf 999999999 1\n999999999 -999999999 0", 999999999, list(lits(999999999, -999999999)))
	for _, head := range []string{
		"x", "p", "p cnf", "p cnf 2", "p cnf 2 1 0", "p cnf 2 1 x", "p cnf 2 x", "p cnf x 1", "cnf 2 1", "q cnf 2 1", "pcnf 2 1", "p dnf 2 1", "p CNF 2 1", "P cnf 2 1", "p cnf2 1", "p cnf 2\v1", "p\u00a0cnf 2 1",
		"p cnf -1 1", "p cnf 2 -1", "p cnf -2 -1", "p cnf +2 1", "p cnf 2 +1", "p cnf 2. 1", "p cnf 2 1.", "p cnf - 1", "p cnf 2 -", "p cnf --2 1", "p cnf 0x2 1", "p cnf 1234567890 1", "p cnf 2 1234567890", "p cnf 0000000002 1", "p cnf \xff 1", "1 0", "0", "2 1",
	} {
		for ahead, text := range []string{head, "c\n" + head, "\n \n" + head} {
			line := 1 + ahead
			if strings.HasPrefix(head, "c") {
				continue // that line counts for nothing
			}
			wantNoParse(t, text, line)
			wantNoParse(t, text+"\n2 0\n", line)
		}
	}
	wantNoParse(t, "cnf 2 1\n2 0\n", 2)
	wantNoParse(t, "p cnf 0 0\np cnf 0 0\n", 2)
}

func TestC4ParseOfNumbers(t *testing.T) {
	wantParse(t, "p cnf 123456789 2\n123456789 -123456789 0\n0\n", 123456789, list(lits(123456789, -123456789), nil))
	wantParse(t, "p cnf 9 1\n000000009 -000000009 -01 01 0\n", 9, list(lits(9, -9, -1, 1)))
	wantParse(t, "p cnf 2 4\n1 -0 -000000000 2 -00 000000000\n", 2, list(lits(1), nil, lits(2), nil))
	for _, word := range []string{"1234567890", "-1234567890", "0000000001", "-0000000001", "0000000000", "-0000000000", "-", "--1", "+1", "+0", "1-", "-1-", "1.", "1.0", "x", "1x", "0x1", "1e0", "1_0", "\xff", "1\xff", "１", "1,", "%", "1\v2", "1\f2", "1\u00a02", "1\x002"} {
		wantNoParse(t, "p cnf 999999999 1\n1 0\n"+word+"\n", 3)
		wantNoParse(t, "p cnf 999999999 1\n1\n1 "+word+" 0\n", 3)
		wantNoParse(t, "p cnf 999999999 1\nc\n"+word+" 0", 3)
	}
}

func TestC4ParseOfClausesOverLines(t *testing.T) {
	want := list(lits(1, -2, 3), lits(-1), nil, lits(2, 2))
	for _, text := range []string{
		"1 -2 3 0\n-1 0\n0\n2 2 0\n", "1 -2 3 0 -1 0 0 2 2 0", "1\n-2\n3\n0\n-1\n0\n0\n2\n2\n0\n", "1 -2\n3 0 -1\n0 0 2\n2 0", "\n1 -2\nc 0 0 0\n\n3\n \n0 -1 0\t0\r2 2\t\t0  \n\n", "  1\t-2\r\n3 0\n-1 0 0 2 2\n0",
	} {
		wantParse(t, "p cnf 3 4\n"+text, 3, want)
	}
}

func TestC4ParseOfAtomsAboveTheHead(t *testing.T) {
	wantNoParse(t, "p cnf 1 1\n2 0", 2)
	wantNoParse(t, "p cnf 1 1\n-2 0\n", 2)
	wantNoParse(t, "p cnf 0 1\n1 0\n", 2)
	wantNoParse(t, "p cnf 3 3\n1 2 3 0\n-3 0\n\n-4\n0\n", 5)
	wantNoParse(t, "p cnf 999999998 1\n1 999999999\n0", 2)
}

func TestC4ParseOfTooManyClauses(t *testing.T) {
	wantNoParse(t, "p cnf 1 0\n\n1 0\n", 3)
	wantNoParse(t, "p cnf 1 0\n0", 2)
	wantNoParse(t, "p cnf 1 1\n1 0 0\n", 2)
	wantNoParse(t, "p cnf 1 1\n1 0\n1\n\n-1\n0\n1 0\n", 6) // the line of the 0
	wantNoParse(t, "p cnf 1 1\n1 0\n1\n-0\n", 4)
	wantNoParse(t, "p cnf 1 2\n0\n0\n1\n2\n0\n", 5) // what is wrong ahead of it is told
	wantNoParse(t, "p cnf 1 1\n1 0\n1\n\n", 4)      // it does not end
}

func TestC4ParseOfTooFewClauses(t *testing.T) {
	wantNoParse(t, "p cnf 1 1", 1)
	wantNoParse(t, "p cnf 1 1\n", 1)
	wantNoParse(t, "p cnf 1 2\n1 0\nc\n\n", 4)
	wantNoParse(t, "p cnf 1 2\n1 0", 2)
	wantNoParse(t, "p cnf 1 999999999\n0 0 0\n1 0\n", 3)
}

func TestC4ParseOfAClauseThatDoesNotEnd(t *testing.T) {
	wantNoParse(t, "p cnf 1 1\n1", 2)
	wantNoParse(t, "p cnf 1 1\n1\n", 2)
	wantNoParse(t, "p cnf 2 2\n1 0\n2\n-1\n\nc 0", 6)
	wantNoParse(t, "p cnf 1 0\n1\n\n", 3)
	wantNoParse(t, "p cnf 1 1\n1 0 1\n", 2)
}

// refParse reads a text character by character, by the chapter's words.
func refParse(text string) (int, []api.Clause, bool, int) {
	lines := strings.Split(text, "\n")
	if lines[len(lines)-1] == "" {
		lines = lines[:len(lines)-1]
	}
	var head []int
	var all []api.Clause
	var open api.Clause
	for i, line := range lines {
		words := strings.Fields(strings.NewReplacer("\t", " ", "\r", " ", "\v", "x", "\f", "x").Replace(line))
		if len(words) == 0 || line[0] == 'c' {
			continue
		}
		isHead := head == nil
		if isHead {
			if len(words) != 4 || words[0]+words[1] != "pcnf" || words[0] != "p" {
				return 0, nil, false, i + 1
			}
			words = words[2:]
		}
		for _, word := range words {
			var n int
			digits := strings.TrimPrefix(word, "-")
			if len(digits) > 9 || strings.Trim(digits, "0123456789") != "" || digits == "" {
				return 0, nil, false, i + 1
			}
			fmt.Sscan(strings.TrimLeft(digits, "0")+" 0", &n)
			if isHead {
				head = append(head, n)
				if n > 0 && word[0] == '-' {
					return 0, nil, false, i + 1
				}
				continue
			}
			if n > head[0] || n == 0 && len(all) == head[1] {
				return 0, nil, false, i + 1
			}
			switch {
			case n == 0:
				all, open = append(all, open), nil
			case word[0] == '-':
				open = append(open, -n)
			default:
				open = append(open, n)
			}
		}
	}
	if head == nil || open != nil || len(all) < head[1] {
		return 0, nil, false, len(lines)
	}
	return head[0], all, true, 0
}

// Texts that are right, and such with something wrong, put in at any place.
func TestC4ParseOfAny(t *testing.T) {
	r := rand.New(rand.NewSource(184))
	bits := []string{" ", "\n", "\t", "\r", "c", "\nc ", "0", " 0", "0\n", "-", " -0 ", "1", "-1", "9", "\n0000000000", "123456789", "p cnf 2 2\n", "p", "cnf", "x", "\xff", "é", "\v", "\n\n", " 2 ", ""}
	good, bad := 0, 0
	for range 60000 {
		atoms := 1 + r.Intn(12)
		var l []api.Clause
		for range r.Intn(5) {
			l = append(l, drawn(r, atoms, 4))
		}
		text, _ := clauses.Dimacs(atoms, l)
		for range r.Intn(4) {
			at := r.Intn(len(text) + 1)
			cut := min(len(text), at+r.Intn(3)*r.Intn(2))
			text = text[:at] + bits[r.Intn(len(bits))] + text[cut:]
		}
		if n, l, ok, at := refParse(text); ok {
			wantParse(t, text, n, l)
			good++
		} else {
			wantNoParse(t, text, at)
			bad++
		}
	}
	if min(good, bad) < 10000 {
		t.Fatal("texts that are right, and others:", good, bad)
	}
}

// A long text is read soon; a head line's numbers are no reason to make room.
func TestC4ParseOfLongTexts(t *testing.T) {
	const many = 200000
	text := fmt.Sprintf("p cnf 3 %d\n", many) + strings.Repeat("1 -2 3 0\n", many)
	n, l, e, at := clauses.Parse(text)
	wantErr(t, "Parse", e, api.OK)
	wantInt(t, "atoms", n, 3)
	wantInt(t, "clauses", len(l), many)
	wantInt(t, "the place", at, 0)
	wantClause(t, "the last one", l[many-1], lits(1, -2, 3))
	wantNoParse(t, "p cnf 999999999 999999999\n", 1)
	wantNoParse(t, text+strings.Repeat("\n", many)+"-\n", 2*many+2)
	wantParse(t, strings.Repeat("c", many)+"\n"+strings.Repeat(" ", many)+"p cnf 1 1 \n"+strings.Repeat(" ", many)+"-1"+strings.Repeat("\n", many)+"0", 1, list(lits(-1)))
}
