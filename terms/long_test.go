package terms_test

import (
	"fmt"
	"math/big"
	"strings"
	"testing"

	"fulcrum/api"
)

// power is 2 to so many bits; one of 2^15 bits has 1025 limbs, one of a bit less 1024.
func power(bits int) string {
	return new(big.Int).Lsh(big.NewInt(1), uint(bits)).String()
}

const (
	bitsOfMost = 32 * api.MaxLimbs
	isRight    = api.OK
)

// The numbers of which a list of numbers is worked out, each at the limit and one limb above it, in Num and in Den.
func TestB4NumbersOnTheWay(t *testing.T) {
	most := new(big.Int).Sub(new(big.Int).Lsh(big.NewInt(1), bitsOfMost), big.NewInt(1)).String() // all bits of 1024 limbs
	put := strings.NewReplacer("MOST", most, "LONG", power(bitsOfMost), "HALF", power(bitsOfMost/2), "SEVENS", strings.Repeat("7", 10000))
	b := bank(t)
	for _, c := range []struct {
		in  string
		err api.Errno
	}{
		// A numeral's own number is not asked, nor a decimal's, nor an opposite.
		{"LONG", isRight}, {"0.SEVENS", isRight}, {"(- LONG)", isRight}, {"(- (- LONG))", isRight}, {"(- x LONG)", isRight}, {"(+ x LONG)", isRight}, {"(+ LONG x)", isRight}, {"(< x LONG)", isRight}, {"(= LONG LONG)", isRight}, {"(ite p LONG 1)", isRight}, {"(+ 1 2 LONG x)", isRight},
		// Sums: the first one, and what it is behind each other one.
		{"(+ MOST 0)", isRight}, {"(+ 0 MOST)", isRight}, {"(+ MOST 1)", api.ErrLong}, {"(+ 1 MOST)", api.ErrLong}, {"(+ LONG 0)", api.ErrLong}, {"(+ 0 LONG)", api.ErrLong}, {"(+ LONG (- LONG))", api.ErrLong}, {"(+ LONG (- 1))", api.ErrLong}, {"(+ (- 1) LONG)", isRight}, {"(+ MOST 1 (- 1))", api.ErrLong}, {"(+ MOST (- 1) 1)", isRight}, {"(+ (- MOST) (- 1))", api.ErrLong},
		{"(+ (/ 1 MOST) (/ 1 2))", api.ErrLong}, {"(+ (/ 1 HALF) (/ 1 HALF))", isRight}, {"(+ 1 2 (- LONG))", isRight}, {"(+ 1 (- 1) (- LONG))", api.ErrLong},
		// Differences.
		{"(- MOST 0)", isRight}, {"(- MOST (- 1))", api.ErrLong}, {"(- LONG 1)", api.ErrLong}, {"(- 1 LONG)", isRight}, {"(- 0 LONG)", api.ErrLong}, {"(- (- MOST) 1)", api.ErrLong}, {"(- 0 MOST 1)", api.ErrLong}, {"(- 0 MOST (- 1))", isRight}, {"(- MOST (- 1) 1)", api.ErrLong},
		// Products: 1 times each number, from the left on, whatever else there is.
		{"(* MOST 1)", isRight}, {"(* MOST 2)", api.ErrLong}, {"(* LONG 0)", api.ErrLong}, {"(* 0 LONG)", isRight}, {"(* 2 MOST 0)", api.ErrLong}, {"(* 0 2 MOST)", isRight}, {"(* MOST x)", isRight}, {"(* x MOST)", isRight}, {"(* LONG x)", api.ErrLong}, {"(* x LONG)", api.ErrLong}, {"(* MOST x 2)", api.ErrLong}, {"(* HALF x HALF)", api.ErrLong}, {"(* HALF HALF 0.5)", api.ErrLong}, {"(* HALF 0.5 HALF)", isRight}, {"(* (- MOST) 1)", isRight}, {"(* (- MOST) 2)", api.ErrLong},
		{"(* (/ 1 MOST) 0.5)", api.ErrLong}, {"(* (/ 1 MOST) 0.5 x)", api.ErrLong}, {"(* (/ 1 MOST) x)", isRight},
		// Quotients: 1 divided by each, and then times the first.
		{"(/ x MOST)", isRight}, {"(/ x LONG)", api.ErrLong}, {"(/ MOST 1)", isRight}, {"(/ LONG 1)", api.ErrLong}, {"(/ LONG 2)", isRight}, {"(/ LONG LONG)", api.ErrLong}, {"(/ MOST MOST)", isRight}, {"(/ 0 LONG)", api.ErrLong}, {"(/ x MOST 2)", api.ErrLong}, {"(/ x MOST 2 0.5)", api.ErrLong}, {"(/ x MOST 0.5 2)", isRight}, {"(/ MOST 2)", isRight}, {"(/ MOST 0.5)", api.ErrLong}, {"(/ x (/ 1 MOST))", isRight}, {"(/ x (/ 1 MOST) 0.5)", api.ErrLong}, {"(/ x (- MOST))", isRight}, {"(/ LONG x)", api.ErrDivide}, {"(/ LONG LONG 0)", api.ErrDivide},
		// What comes ahead of it.
		{"(* LONG x y)", api.ErrLinear}, {"(* LONG p)", api.ErrSort}, {"(+ LONG p)", api.ErrSort}, {"(* LONG)", api.ErrArity}, {"(+ LONG)", api.ErrArity},
	} {
		in := put.Replace(c.in)
		was := fmt.Sprint(b.Len(), b.Names())
		m := modelOf(t, b)
		want, wrong := m.read(node(in))
		n, e, part := b.Read(node(in))
		wantErr(t, c.in, e, c.err)
		wantErr(t, c.in+" in the model", wrong.err, c.err)
		wantNumber(t, c.in, n, want)
		if e != api.OK {
			wantText(t, c.in, printed(part), printed(node(in)))
			wantText(t, "the bank", fmt.Sprint(b.Len(), b.Names()), was)
			continue
		}
		wantTerm(t, b, n, m.get(n))
	}
}

// ErrLong within a macro is that of the list that calls it, or of the symbol, however deep it is; within a let it stays where it is.
func TestB4LongWithinMacros(t *testing.T) {
	b := bank(t)
	most := power(bitsOfMost - 1)
	define(t, b, "double", params("aR"), api.SortReal, "(+ a a)")
	define(t, b, "deep", params("aR"), api.SortReal, "(ite p 1 (double (double a)))")
	define(t, b, "last", nil, api.SortReal, most)
	define(t, b, "lot", nil, api.SortReal, "(- x last)")
	wantRefused(t, b, "(+ x (double "+most+"))", api.ErrLong, "(double "+most+")")
	wantRefused(t, b, "(let ((a (double last))) a)", api.ErrLong, "(double last)")
	wantRefused(t, b, "(deep last)", api.ErrLong, "(deep last)")
	wantSays(t, b, "(< lot (double (double 1)))", "(< (+ x (- "+most+".0)) 4.0)")
	wantNotDefined(t, b, "f", nil, api.SortReal, node("(+ x (deep last))"), api.ErrLong, "(deep last)")
	wantNotDefined(t, b, "f", nil, api.SortReal, node("(* "+most+" 2)"), api.ErrLong, "(* "+most+" 2)")
	wantNotDefined(t, b, "f", params("aR"), api.SortReal, node("(* "+most+" 2 a)"), api.ErrLong, "(* "+most+" 2 a)")
	define(t, b, "f", params("aR"), api.SortReal, "(deep a)")
	wantRefused(t, b, "(not (= y (f last)))", api.ErrLong, "(f last)")
	define(t, b, "twice", params("aR"), api.SortReal, "(* 2 (double a))")
	define(t, b, "g", nil, api.SortReal, "(twice 1)")
	wantRefused(t, b, "(+ g (twice last))", api.ErrLong, "(twice last)")
}

// A decimal that has more limbs than may be reckoned is read, printed as a quotient, and that is not read.
func TestB8LongDecimals(t *testing.T) {
	b := bank(t)
	n := read(t, b, "0."+strings.Repeat("0", 10000)+"3")
	s := text(t, b, n)
	wantText(t, "Print", s, "(/ 3.0 1"+strings.Repeat("0", 10001)+".0)")
	wantRefused(t, b, s, api.ErrLong, s)
	n = read(t, b, strings.Repeat("3", 20000))
	wantNumber(t, "there and back", read(t, b, text(t, b, n)), n)
}
