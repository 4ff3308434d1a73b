package meaning_test

import (
	"fmt"
	"math"
	"strconv"
	"strings"
	"testing"

	"fulcrum/api"
	"fulcrum/meaning"
	"fulcrum/terms"
)

// truths hands on all truths of p, q and r.
func truths(do func(p, q, r bool, l []api.Binding)) {
	for i := range 8 {
		p, q, r := i&1 > 0, i&2 > 0, i&4 > 0
		do(p, q, r, binds(fmt.Sprint("p=", p), fmt.Sprint("q=", q), fmt.Sprint("r=", r)))
	}
}

func TestV1KindsOfTruths(t *testing.T) {
	b := bank(t)
	truths(func(p, q, r bool, l []api.Binding) {
		for text, want := range map[string]bool{
			"true": true, "false": false, "p": p, "q": q, "(not p)": !p,
			"(and p q)": p && q, "(and p q r)": p && q && r, "(and r p q p)": p && q && r, "(and p p)": p,
			"(or p q)": p || q, "(or p q r)": p || q || r, "(or q q)": q,
			"(xor p q)": p != q, "(xor p q r)": (p != q) != r, "(xor p p)": false,
			"(=> p q)": !p || q, "(=> p q r)": !p || !q || r, "(=> q p)": !q || p,
			"(= p q)": p == q, "(= p q r)": p == q && q == r, "(= p p)": true,
			"(distinct p q)": p != q, "(distinct p q r)": false, "(distinct p p)": false,
			"(ite p q r)": p && q || !p && r, "(ite (not p) q r)": !p && q || p && r,
			"(not (and (or p q) (xor q r) (=> r p)))": !((p || q) && q != r && (!r || p)),
		} {
			wantSays(t, b, text, l, strconv.FormatBool(want))
		}
	})
}

// Comparisons, where the first number is below the second one, the same, above it.
func TestV1KindsOfComparisons(t *testing.T) {
	b := bank(t)
	for _, c := range []struct {
		x, y string
		sign int
	}{
		{"1", "2", -1}, {"-1", "1", -1}, {"0", "0", 0}, {"-1/2", "-1/3", -1}, {"1/3", "2/6", 0}, {"7/2", "3", 1}, {"-5", "-6", 1}, {"0", "-1/1000000000000", 1},
		{"100000000000000000000/3", "33333333333333333333.3333", 1}, {"18446744073709551616", "18446744073709551616", 0}, {"1/18446744073709551616", "1/18446744073709551617", 1},
	} {
		l := binds("x="+c.x, "y="+c.y)
		for text, want := range map[string]bool{
			"(< x y)": c.sign < 0, "(<= x y)": c.sign <= 0, "(> x y)": c.sign > 0, "(>= x y)": c.sign >= 0,
			"(= x y)": c.sign == 0, "(distinct x y)": c.sign != 0, "(< x x)": false, "(<= x x)": true, "(= x x)": true, "(distinct y y)": false,
		} {
			wantSays(t, b, text, l, strconv.FormatBool(want))
		}
	}
}

// The same two, in places that are neighbours and that are not.
func TestV1DistinctOfMany(t *testing.T) {
	b := bank(t)
	for _, c := range []struct{ x, y, z, want string }{
		{"1", "2", "3", "true"}, {"1", "1", "3", "false"}, {"1", "2", "1", "false"}, {"1", "2", "2", "false"}, {"0", "0", "0", "false"}, {"-1", "1", "0", "true"}, {"1/2", "2", "1/3", "true"}, {"2/4", "2", "1/2", "false"}, {"4294967296", "1", "0", "true"}, {"1/3", "3", "-3", "true"}, {"-1/3", "1/3", "-3", "true"},
	} {
		wantSays(t, b, "(distinct x y z)", binds("x="+c.x, "y="+c.y, "z="+c.z), c.want)
		wantSays(t, b, "(distinct (+ x 5) (* 3 y) (* 3 y) z)", binds("x="+c.x, "y="+c.y, "z="+c.z), "false")
	}
	wantSays(t, b, "(distinct x 1 y 2 z 3)", binds("x=4", "y=5", "z=6"), "true")
	wantSays(t, b, "(distinct x 1 y 2 z 3)", binds("x=4", "y=5", "z=1"), "false")
	wantSays(t, b, "(distinct 0 (+ x y))", binds("x=-1/2", "y=1/2"), "false")
}

func TestV1KindsOfNumbers(t *testing.T) {
	b := bank(t)
	l := binds("x=-3/2", "y=1/3", "z=18446744073709551616", "p=true", "q=false")
	for text, want := range map[string]string{
		"x": "-3/2", "z": "18446744073709551616", "7": "7", "2.50": "5/2", "0.0": "0", "(- 3)": "-3", "(/ 1 3)": "1/3",
		"(+ x y)": "-7/6", "(+ x x)": "-3", "(+ x 1.5)": "0", "(+ x y z 1)": "110680464442257309695/6", "(+ y y y)": "1", "(+ x y x y x y)": "-7/2",
		"(* 2 x)": "-3", "(* (- 4) x)": "6", "(* 0 x)": "0", "(* (/ 2 3) x)": "-1", "(/ x 3)": "-1/2", "(- x)": "3/2", "(- x y)": "-11/6", "(- x x)": "0",
		"(ite p x y)": "-3/2", "(ite q x y)": "1/3", "(ite (< x y) (+ x 1) z)": "-1/2", "(ite (and p q) 1 (ite p 2 3))": "2",
		"(+ (* 3 (ite q x y)) (- z) (* (/ 1 2) z) 1)": "-9223372036854775806",
	} {
		wantSays(t, b, text, l, want)
	}
}

// A sum and a comparison of more kids than there are pairs to be held against each other.
func TestV1ManyKids(t *testing.T) {
	b := bank(t)
	l := binds("x=1/2", "p=true", "q=true")
	const many = 1 << 17
	kids := make([]int, many)
	for i := range kids {
		kids[i] = read(t, b, fmt.Sprintf("(/ %d 7)", i+1))
	}
	wantEval(t, b, add(t, b, api.TermAdd, kids...), l, "8590000128/7")
	wantEval(t, b, add(t, b, api.TermDistinct, kids...), l, "true")
	wantEval(t, b, add(t, b, api.TermDistinct, append(kids, kids[0])...), l, "false")
	wantEval(t, b, add(t, b, api.TermDistinct, append(kids[1:many:many], read(t, b, "x"))...), l, "true")
	for i := range kids {
		kids[i] = read(t, b, "p")
	}
	and, or := add(t, b, api.TermAnd, kids...), add(t, b, api.TermOr, append(kids[:many:many], read(t, b, "q"))...)
	wantEval(t, b, and, l, "true")
	wantEval(t, b, and, binds("p=false"), "false")
	wantEval(t, b, or, binds("p=false", "q=true"), "true")
	wantEval(t, b, or, binds("p=false", "q=false"), "false")
	wantEval(t, b, add(t, b, api.TermDistinct, kids...), l, "false")
}

// A sum whose kids have no common Den.
func TestV1SumOfManyDens(t *testing.T) {
	b := bank(t)
	var kids []int
	const many = 2000 // 1/(1 2) + 1/(2 3) + .. + 1/(n (n+1)) is n/(n+1)
	for i := 1; i <= many; i++ {
		kids = append(kids, read(t, b, fmt.Sprintf("(/ 1 %d)", i*(i+1))))
	}
	wantEval(t, b, add(t, b, api.TermAdd, kids...), nil, fmt.Sprintf("%d/%d", many, many+1))
}

func TestV1NoSuchTerm(t *testing.T) {
	b := bank(t)
	l := binds("x=1", "p=true")
	for _, n := range []int{-1, b.Len(), b.Len() + 1, math.MaxInt, math.MinInt} {
		wantNoValue(t, b, n, l, api.ErrTerm)
		wantNoValue(t, b, n, nil, api.ErrTerm)
		wantNoValue(t, terms.New(), n, l, api.ErrTerm)
	}
	wantNoValue(t, terms.New(), 0, l, api.ErrTerm)
	for _, none := range unmade() {
		for _, n := range []int{0, 1, -1, math.MaxInt, math.MinInt} {
			wantNoValue(t, none, n, l, api.ErrTerm)
		}
	}
	wantEval(t, b, b.Len()-1, binds("r=true"), "true")
}

// A constant without a value, wherever it stands, and however little its value would say.
func TestV1NoValue(t *testing.T) {
	b := bank(t)
	all := binds("x=1", "y=2", "z=3", "p=true", "q=false", "r=true")
	for _, text := range []string{
		"x", "p", "(not p)", "(or true p)", "(or p true)", "(and false p)", "(and p false)", "(=> false p)", "(=> p true)", "(ite true 1 x)", "(ite false x 1)", "(ite p 1 1)", "(ite p q r)", "(= x x)", "(<= x x)", "(* 0 x)",
		"(distinct p q r)", "(distinct 1 1 x)", "(+ x y (- x))", "(xor p p)", "(- x x)", "(ite (< x y) (+ x z) (ite p y z))", "(and (or p q) (or (not r) (not (= x (* 2 y)))))",
	} {
		n := read(t, b, text)
		for i, one := range all {
			others := append(append([]api.Binding{}, all[:i]...), all[i+1:]...)
			if !standsIn(text, one.Name) {
				wantNoError(t, b, n, others)
				continue
			}
			wantNoValue(t, b, n, others, api.ErrValue)
			for _, sort := range append(oddSorts, 3-one.Value.Sort) {
				odd := one
				odd.Value.Sort = sort
				wantNoValue(t, b, n, append(others, odd), api.ErrValue)
			}
			wantNoError(t, b, n, append(others, one))
		}
	}
	wantNoValue(t, b, read(t, b, "x"), nil, api.ErrValue)
	wantEval(t, b, read(t, b, "(+ 1 1)"), nil, "2")
	wantEval(t, b, read(t, b, "(or true false)"), nil, "true")
}

// standsIn tells whether a name stands in a text.
func standsIn(text, name string) bool {
	for _, word := range strings.Fields(strings.NewReplacer("(", " ", ")", " ").Replace(text)) {
		if word == name {
			return true
		}
	}
	return false
}

func wantNoError(t *testing.T, b *terms.Bank, n int, l []api.Binding) {
	t.Helper()
	_, e := meaning.Eval(b, n, l)
	wantErr(t, fmt.Sprint("Eval of ", n, " with ", toldAll(l)), e, api.OK)
}

// Of several bindings of a name the first one counts, of any sort.
func TestV1TheFirstBinding(t *testing.T) {
	b := bank(t)
	x := read(t, b, "x")
	wantEval(t, b, x, binds("x=1", "x=2"), "1")
	wantEval(t, b, x, binds("y=7", "x=2", "p=true", "x=1", "x=3"), "2")
	wantEval(t, b, x, binds("x=1", "x=true"), "1")
	wantNoValue(t, b, x, binds("x=true", "x=1"), api.ErrValue)
	wantEval(t, b, read(t, b, "p"), binds("p=false", "p=1", "p=true"), "false")
	for _, sort := range oddSorts {
		odd := api.Binding{Name: "x", Value: api.Value{Sort: sort, Bool: true, Real: value("5").Real}}
		wantNoValue(t, b, x, append([]api.Binding{odd}, binds("x=1")...), api.ErrValue)
		wantEval(t, b, x, append(binds("x=1"), odd), "1")
	}
}

// Bindings of names that stand nowhere say nothing, of whatever sort they are.
func TestV1OtherNames(t *testing.T) {
	b := bank(t)
	l := append(binds("=1", "X=2", "x =3", "|x|=4", "nobody=true", "y=true", "and=1", "true=false"), api.Binding{Name: "z"}, api.Binding{Name: "\xff", Value: api.Value{Sort: 9}})
	wantEval(t, b, read(t, b, "(+ x 1)"), append(l, binds("x=5")...), "6")
	wantNoValue(t, b, read(t, b, "(+ x 1)"), l, api.ErrValue)
	wantSays(t, b, "(and true (not false))", l, "true")
}

// Numbers in bindings are read as every number is, and what does not count of a value is not looked at.
func TestV1NumbersThatAreNotNormal(t *testing.T) {
	b := bank(t)
	for _, c := range []struct {
		r    api.Rat
		want string
	}{
		{api.Rat{}, "0"}, {api.Rat{Num: api.Int{Abs: api.Nat{5}}}, "0"}, {api.Rat{Num: api.Int{Neg: true, Abs: api.Nat{5}}, Den: api.Nat{0, 0}}, "0"}, {api.Rat{Num: api.Int{Neg: true}, Den: api.Nat{1}}, "0"},
		{api.Rat{Num: api.Int{Neg: true, Abs: api.Nat{0}}, Den: api.Nat{7, 0}}, "0"}, {api.Rat{Num: api.Int{Abs: api.Nat{6}}, Den: api.Nat{4}}, "3/2"}, {api.Rat{Num: api.Int{Neg: true, Abs: api.Nat{6, 0, 0}}, Den: api.Nat{4, 0}}, "-3/2"},
		{api.Rat{Num: api.Int{Abs: api.Nat{0, 6}}, Den: api.Nat{0, 3}}, "2"},
	} {
		l := []api.Binding{{Name: "x", Value: api.Value{Sort: api.SortReal, Bool: true, Real: c.r}}, {Name: "p", Value: api.Value{Sort: api.SortBool, Bool: true, Real: c.r}}}
		l = append(l, binds("y="+c.want)...)
		for text, want := range map[string]string{"x": c.want, "p": "true", "(= x y)": "true", "(distinct x y)": "false", "(<= x y)": "true", "(< x y)": "false", "(ite p x 77)": c.want, "(+ x (- y))": "0", "(* 1 x)": c.want, "(distinct 77 x y)": "false", "(= p true)": "true", "(distinct p true)": "false"} {
			wantSays(t, b, text, l, want)
		}
	}
}

// A constant that Stand made has the value of its own name, whatever it stands for.
func TestV1Stands(t *testing.T) {
	b := bank(t)
	sum, p := read(t, b, "(+ x 1)"), read(t, b, "p")
	of, truth := stand(t, b, sum), stand(t, b, p)
	name := fmt.Sprint("\x00", sum)
	wantNoValue(t, b, of, binds("x=1"), api.ErrValue)
	wantEval(t, b, of, binds("x=1", name+"=7"), "7")
	wantEval(t, b, of, binds(name+"=7"), "7")
	wantNoValue(t, b, of, binds(name+"=true"), api.ErrValue)
	wantNoValue(t, b, truth, binds("p=true"), api.ErrValue)
	both := add(t, b, api.TermEqual, of, sum)
	wantEval(t, b, both, binds(name+"=7", "x=6"), "true")
	wantEval(t, b, both, binds(name+"=7", "x=7"), "false")
	wantEval(t, b, add(t, b, api.TermNot, truth), binds(fmt.Sprint("\x00", p, "=false")), "true")
	wantEval(t, b, stand(t, b, of), binds(fmt.Sprint("\x00", of, "=1/2")), "1/2")
}

// Names that are forgotten have values all the same; of a name that was given with two sorts each constant asks for its own.
func TestV1ForgottenNames(t *testing.T) {
	b, amount, truth, both := twoSorts(t)
	wantEval(t, b, amount, binds("x=1/2"), "1/2")
	wantNoValue(t, b, amount, binds("x=true"), api.ErrValue)
	wantEval(t, b, truth, binds("x=true"), "true")
	wantNoValue(t, b, truth, binds("x=0"), api.ErrValue)
	for _, l := range [][]api.Binding{nil, binds("x=0"), binds("x=true"), binds("x=0", "x=true"), binds("x=false", "x=0")} {
		wantNoValue(t, b, both, l, api.ErrValue)
	}
	wantErr(t, "Forget", b.Forget(0), api.OK)
	wantEval(t, b, add(t, b, api.TermNot, truth), binds("x=true"), "false")
	wantEval(t, b, add(t, b, api.TermAdd, amount, amount), binds("x=2"), "4")
}

// Names that only a bank that was loaded may have.
func TestV1LoadedBank(t *testing.T) {
	one := value("1").Real
	b, e := terms.Load([]api.Term{
		{Kind: api.TermName, Name: "and", Sort: api.SortReal}, {Kind: api.TermName, Name: "and", Sort: api.SortBool}, {Kind: api.TermName, Name: "\x000", Sort: api.SortReal},
		{Kind: api.TermScale, Number: one, Kids: []int{2}}, {Kind: api.TermAtMost, Kids: []int{0, 3}}, {Kind: api.TermOr, Kids: []int{4, 1}},
	}, nil)
	wantErr(t, "Load", e, api.OK)
	wantEval(t, b, 4, binds("and=1", "\x000=1"), "true")
	wantEval(t, b, 4, binds("and=1", "\x000=0"), "false")
	wantEval(t, b, 1, binds("and=true"), "true")
	wantNoValue(t, b, 5, binds("and=1", "\x000=1"), api.ErrValue)
	wantNames(t, b, 5, "\x000", "and")
}
