package terms_test

import (
	"fmt"
	"strings"
	"testing"
	"time"

	"fulcrum/api"
	"fulcrum/terms"
)

func TestB5EachKind(t *testing.T) {
	b := bank(t)
	want := []string{
		"true", "false", "(- (/ 3.0 2.0))", "(not p)", "(and p q)", "(or p q)", "(xor p q)", "(=> p q)", "(ite p q p)", "(ite p x y)", "(= p q)", "(= x y)", "(distinct p q)", "(distinct x y)", "(< x y)", "(<= x y)", "(+ x y)", "(* 0.0 x)",
	}
	for i, in := range some {
		wantAdd(t, b, in, 4+i)
		wantText(t, "Print", text(t, b, 4+i), want[i])
	}
	for i, s := range []string{"x", "y", "p", "q"} {
		wantText(t, "Print", text(t, b, i), s)
	}
}

func TestB5Numbers(t *testing.T) {
	b := bank(t)
	for in, want := range map[string]string{"0": "0.0", "7": "7.0", "-7": "(- 7.0)", "1/2": "(/ 1.0 2.0)", "-1/2": "(- (/ 1.0 2.0))", "18446744073709551616/3": "(/ 18446744073709551616.0 3.0)"} {
		n, e := b.Add(number(in))
		wantErr(t, in, e, api.OK)
		wantText(t, in, text(t, b, n), want)
		n, e = b.Add(scale(in, n))
		wantErr(t, in, e, api.OK)
		wantText(t, in, text(t, b, n), "(* "+want+" "+want+")")
		n, e = b.Add(truth(api.TermLess, n, 0))
		wantErr(t, in, e, api.OK)
		wantText(t, in, text(t, b, n), "(< (* "+want+" "+want+") x)")
	}
	wantSays(t, b, "(- 0.125)", "(- (/ 1.0 8.0))")
}

func TestB5Names(t *testing.T) {
	b := terms.New()
	for name, want := range map[string]string{"a": "a", "a b": "|a b|", "1": "|1|", "(": "|(|", "é": "|é|", ":a": "|:a|", "<=>": "<=>", "\n": "|\n|", "\"": "|\"|"} {
		n, e := b.Declare(name, api.SortBool)
		wantErr(t, name, e, api.OK)
		wantText(t, name, text(t, b, n), want)
		m, e := b.Add(truth(api.TermNot, n))
		wantErr(t, name, e, api.OK)
		wantText(t, name, text(t, b, m), "(not "+want+")")
		wantNumber(t, name, read(t, b, "(not "+want+")"), m)
	}
}

// wantLong: the text of a term has this many bytes; above the limit it is not told.
func wantLong(t *testing.T, b *terms.Bank, n, bytes int) {
	t.Helper()
	s, e := b.Print(n)
	if bytes > api.MaxText {
		wantErr(t, fmt.Sprint(bytes, " bytes"), e, api.ErrLong)
		wantNumber(t, "ErrLong", len(s), 0)
		return
	}
	wantErr(t, fmt.Sprint(bytes, " bytes"), e, api.OK)
	wantNumber(t, "Print", len(s), bytes)
}

// Texts at the limit and one byte above it and below: names, numbers, lists, and what is too long at its end alone.
func TestB5TheLimit(t *testing.T) {
	b := bank(t)
	const most = api.MaxText
	for bytes := most - 1; bytes <= most+1; bytes++ {
		n, e := b.Declare(strings.Repeat("n", bytes), api.SortReal)
		wantErr(t, "Declare", e, api.OK)
		wantLong(t, b, n, bytes)
		n, e = b.Declare(strings.Repeat("n", bytes-3)+" ", api.SortReal)
		wantErr(t, "Declare", e, api.OK)
		wantLong(t, b, n, bytes)
		n, e = b.Declare(strings.Repeat("m", bytes-6), api.SortBool)
		wantErr(t, "Declare", e, api.OK)
		n, e = b.Add(truth(api.TermNot, n))
		wantErr(t, "Add", e, api.OK)
		wantLong(t, b, n, bytes)
		s, _ := b.Stand(n)
		wantLong(t, b, s, bytes)
		if bytes >= most { // these take long
			n, e, _ = b.Read(token(api.TokNumeral, strings.Repeat("7", bytes-2)))
			wantErr(t, "Read", e, api.OK)
			wantLong(t, b, n, bytes)
		}
		n, e = b.Declare(strings.Repeat("k", bytes-len("(* (- (/ 1.0 3.0)) )")), api.SortReal)
		wantErr(t, "Declare", e, api.OK)
		n, e = b.Add(scale("-1/3", n))
		wantErr(t, "Add", e, api.OK)
		wantLong(t, b, n, bytes)
	}
	and := api.Term{Kind: api.TermAnd}
	for range (most - len("(and)")) / 2 {
		and.Kids = append(and.Kids, 2)
	}
	n, _ := b.Add(and)
	wantLong(t, b, n, most-1)
	and.Kids = append(and.Kids, 2)
	n, _ = b.Add(and)
	wantLong(t, b, n, most+1)
}

// A term whose text would be longer than all memory is refused soon, and so is a number that is far too long, also many of them.
func TestB5FarTooLong(t *testing.T) {
	b := bank(t)
	began := time.Now()
	n := 2
	for range 3000 {
		n, _ = b.Add(truth(api.TermXor, n, n))
	}
	wantLong(t, b, n, 1<<40)
	wantLong(t, b, 3+15, (1<<15)+((1<<15)-1)*len("(xor  )")) // so many p, and so many lists but one
	wantLong(t, b, 3+16, 1<<40)
	v, e, _ := b.Read(token(api.TokNumeral, strings.Repeat("7", 1<<20)))
	wantErr(t, "Read", e, api.OK)
	wantLong(t, b, v, 1<<20)
	all := api.Term{Kind: api.TermAdd}
	for range 1 << 16 {
		all.Kids = append(all.Kids, v)
	}
	v, e = b.Add(all)
	wantErr(t, "Add", e, api.OK)
	wantLong(t, b, v, 1<<40)
	stand := 0
	for range 1 << 16 {
		stand, _ = b.Stand(stand)
	}
	wantText(t, "a long chain of constants that stand", text(t, b, stand), "x")
	for i := range all.Kids {
		all.Kids[i] = stand
	}
	v, _ = b.Add(all)
	wantLong(t, b, v, len("(+)")+2<<16)
	if time.Since(began) > 20*time.Second {
		t.Fatalf("it took %v", time.Since(began))
	}
}

// Terms that stand deep in one another, as deep as there is room for.
func TestB5Deep(t *testing.T) {
	b := bank(t)
	n, e, _ := b.Read(nested("not", symbol("p"), 1<<16-2))
	wantErr(t, "Read", e, api.OK)
	wantNumber(t, "Len", b.Len(), 4+1<<16-2)
	wantLong(t, b, n, 1<<40)
	wantLong(t, b, 3+1<<15, 1+(1<<15)*len("(not )"))
}
