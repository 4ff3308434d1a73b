package rules

import (
	"fmt"
	"go/ast"
	"math"
	"math/big"
	"reflect"
	"slices"
	"strings"
	"sync"
	"testing"

	"fulcrum/analyse"
	"fulcrum/api"
	"fulcrum/approx"
	"fulcrum/atoms"
	"fulcrum/clauses"
	"fulcrum/delta"
	"fulcrum/implied"
	"fulcrum/linear"
	"fulcrum/meaning"
	"fulcrum/optimum"
	"fulcrum/ratio"
	"fulcrum/simplex"
	"fulcrum/tableau"
	"fulcrum/terms"
	"fulcrum/whole"
)

// The rules R1 to R4 for the layers that are functions on plain data; those of layer 11 are handed a simplex too, those of layers 15 and 18 a bank of terms, which they leave as it is. Each function is called with all that its arguments' types may be drawn from; what it was given and what it answers is gone through by reflection, so that a new layer adds no more than a list of its functions.

// listed is one of the functions that a chapter lists.
type listed struct {
	name string
	do   any
}

// drawn is the values that an argument of each type is drawn from.
type drawn map[reflect.Type][]any

func numberFunctions() []listed {
	return []listed{
		{"whole.Of", whole.Of}, {"whole.Small", whole.Small}, {"whole.Norm", whole.Norm}, {"whole.Neg", whole.Neg}, {"whole.Abs", whole.Abs},
		{"whole.Sign", whole.Sign}, {"whole.Cmp", whole.Cmp}, {"whole.Add", whole.Add}, {"whole.Sub", whole.Sub}, {"whole.Mul", whole.Mul},
		{"whole.Quo", whole.Quo}, {"whole.Floor", whole.Floor}, {"whole.Euclid", whole.Euclid}, {"whole.Gcd", whole.Gcd}, {"whole.Lcm", whole.Lcm},
		{"whole.Bezout", whole.Bezout}, {"whole.Inverse", whole.Inverse}, {"whole.Shift", whole.Shift}, {"whole.Pow", whole.Pow},
		{"whole.Root", whole.Root}, {"whole.Text", whole.Text}, {"whole.Parse", whole.Parse},

		{"ratio.Norm", ratio.Norm}, {"ratio.Of", ratio.Of}, {"ratio.Whole", ratio.Whole}, {"ratio.Sign", ratio.Sign}, {"ratio.Cmp", ratio.Cmp},
		{"ratio.Neg", ratio.Neg}, {"ratio.Abs", ratio.Abs}, {"ratio.Add", ratio.Add}, {"ratio.Sub", ratio.Sub}, {"ratio.Mul", ratio.Mul},
		{"ratio.Inv", ratio.Inv}, {"ratio.Div", ratio.Div}, {"ratio.Floor", ratio.Floor}, {"ratio.Ceil", ratio.Ceil},
		{"ratio.Expand", ratio.Expand}, {"ratio.Fold", ratio.Fold}, {"ratio.Simplest", ratio.Simplest}, {"ratio.Best", ratio.Best},
		{"ratio.Text", ratio.Text}, {"ratio.Parse", ratio.Parse}, {"ratio.Decimal", ratio.Decimal}, {"ratio.Script", ratio.Script},

		{"approx.Exact", approx.Exact}, {"approx.Nearest", approx.Nearest}, {"approx.Down", approx.Down}, {"approx.Up", approx.Up},
		{"approx.Next", approx.Next}, {"approx.Prev", approx.Prev}, {"approx.Mid", approx.Mid}, {"approx.Valid", approx.Valid}, {"approx.Around", approx.Around},
		{"approx.In", approx.In}, {"approx.Sum", approx.Sum}, {"approx.Diff", approx.Diff}, {"approx.Prod", approx.Prod}, {"approx.Quot", approx.Quot},
		{"approx.Read", approx.Read}, {"approx.Short", approx.Short},

		{"delta.Norm", delta.Norm}, {"delta.Of", delta.Of}, {"delta.Sign", delta.Sign}, {"delta.Cmp", delta.Cmp}, {"delta.Neg", delta.Neg}, {"delta.Add", delta.Add},
		{"delta.Sub", delta.Sub}, {"delta.Scale", delta.Scale}, {"delta.At", delta.At}, {"delta.Small", delta.Small}, {"delta.Text", delta.Text}, {"delta.Parse", delta.Parse},

		{"linear.Norm", linear.Norm}, {"linear.Add", linear.Add}, {"linear.Sub", linear.Sub}, {"linear.Scale", linear.Scale}, {"linear.Coef", linear.Coef}, {"linear.Vars", linear.Vars},
		{"linear.Cmp", linear.Cmp}, {"linear.Value", linear.Value}, {"linear.Deltas", linear.Deltas}, {"linear.Subst", linear.Subst}, {"linear.Solve", linear.Solve},
		{"linear.Combine", linear.Combine}, {"linear.Prime", linear.Prime}, {"linear.Rename", linear.Rename}, {"linear.Text", linear.Text}, {"linear.Parse", linear.Parse},

		{"tableau.New", tableau.New}, {"tableau.Check", tableau.Check}, {"tableau.Norm", tableau.Norm}, {"tableau.Grow", tableau.Grow}, {"tableau.Define", tableau.Define},
		{"tableau.Row", tableau.Row}, {"tableau.Basics", tableau.Basics}, {"tableau.Others", tableau.Others}, {"tableau.Column", tableau.Column}, {"tableau.Express", tableau.Express},
		{"tableau.Pivot", tableau.Pivot}, {"tableau.Extend", tableau.Extend}, {"tableau.Holds", tableau.Holds}, {"tableau.Same", tableau.Same},

		{"implied.Row", implied.Row}, {"implied.Tighter", implied.Tighter}, {"implied.All", implied.All}, {"implied.Check", implied.Check}, {"implied.Relate", implied.Relate}, {"implied.Lemmas", implied.Lemmas},

		{"optimum.Greatest", optimum.Greatest}, {"optimum.Least", optimum.Least}, {"optimum.Proves", optimum.Proves},

		{"meaning.Eval", meaning.Eval}, {"meaning.Names", meaning.Names}, {"meaning.Holds", meaning.Holds}, {"meaning.Complete", meaning.Complete},

		{"atoms.New", atoms.New}, {"atoms.Check", atoms.Check}, {"atoms.Name", atoms.Name}, {"atoms.Below", atoms.Below}, {"atoms.Says", atoms.Says}, {"atoms.Holds", atoms.Holds}, {"atoms.Implies", atoms.Implies}, {"atoms.Text", atoms.Text},

		{"clauses.Norm", clauses.Norm}, {"clauses.Holds", clauses.Holds}, {"clauses.Resolve", clauses.Resolve}, {"clauses.Covers", clauses.Covers}, {"clauses.Encode", clauses.Encode}, {"clauses.Dimacs", clauses.Dimacs}, {"clauses.Parse", clauses.Parse},

		{"analyse.Check", analyse.Check}, {"analyse.First", analyse.First}, {"analyse.Less", analyse.Less}, {"analyse.Glue", analyse.Glue}, {"analyse.Replay", analyse.Replay}, {"analyse.Final", analyse.Final},
	}
}

func arguments() drawn {
	out := drawn{}
	add := func(v any) { out[reflect.TypeOf(v)] = append(out[reflect.TypeOf(v)], v) }
	for _, n := range []int64{0, 1, -1, math.MaxInt64, math.MinInt64} {
		add(n)
	}
	for _, n := range []int{0, 1, -1, 2, 3, -5, -32, -33, 40, -64, -1000, api.MaxShift + 1, -api.MaxShift - 1, math.MaxInt, math.MinInt} {
		add(n)
	}
	for _, s := range []string{
		"", "0", "-", "-0", "7", "-18446744073709551616", "+1", "007", "\xff", "é", strings.Repeat("z", 300), strings.Repeat("1", 300), strings.Repeat("0", 300),
		"6/4", "-0/1", "1/", "/1", "1/0", "-0.50", "1.", ".5", "1.5/2", "-0e7", "1e400", "-2E-0324", "1e+", "1e5001", strings.Repeat("1", api.MaxPlaces+1), strings.Repeat("1", 300) + "." + strings.Repeat("0", 300), "-1/" + strings.Repeat("2", 300),
		"3-1d", "-1/2+1/3d", "0+2d", "d", "+1d", "3+1", "3-0d", "3+-1d", "3+2/4d", "3+1dd", "3+1d ", "3+\xffd", "-" + strings.Repeat("7", 300) + "-1/" + strings.Repeat("2", 300) + "d",
		"-1*x2+1/2*x10", "1*x-9223372036854775808+1*x9223372036854775807", "0*x1", "1*x", "*x1", "1*x1+", "1*x1+1*x1", "1*x2+1*x1", "2/4*x1", "1*x-0", "1*x9223372036854775808", "1*x\xff", strings.Repeat("1*x1+", 100), strings.Repeat("7", 300) + "*x1+-1/" + strings.Repeat("2", 300) + "*x2",
		"p cnf 3 2\n1 -2 0\n3 0\n", "c\np cnf 2 1\n1\n-2 0", "p cnf 0 0", "p cnf 1 1\n2 0", "p cnf 1 1\n1", "p cnf 1 0\n0\n",
	} {
		add(s)
	}
	for _, abs := range someLimbs() {
		add(abs)
		add(api.Int{Abs: abs})
		add(api.Int{Neg: true, Abs: abs})
	}
	for _, r := range someRats() {
		add(r)
	}
	for _, l := range someLists() {
		add(l)
	}
	for _, f := range someFloats() {
		add(f)
	}
	for _, s := range someSpans() {
		add(s)
	}
	for _, d := range someDeltas() {
		add(d)
	}
	for _, l := range someGaps() {
		add(l)
	}
	add(false)
	add(true)
	addForms(add)
	for _, t := range someTableaus() {
		add(t)
	}
	addBounds(add)
	addAtoms(add)
	for _, x := range someSimplexes() {
		add(x)
	}
	for _, l := range someDuals() {
		add(l)
	}
	for _, b := range someBanks() {
		add(b)
	}
	for _, l := range someBindings() {
		add(l)
	}
	addClauses(add)
	addMarks(add)
	return out
}

// addClauses adds clauses and lists of them, with what is no literal too, and values.
func addClauses(add func(v any)) {
	all := []api.Clause{nil, {}, {1}, {-1}, {2, -3, 2}, {3, 1, -1, 2}, {-2, 1, 3}, {math.MaxInt, -math.MaxInt}, {1, 0}, {2, math.MinInt}}
	for _, c := range all {
		add(c)
	}
	for _, l := range [][]api.Clause{nil, {}, all[:2], all[2:4], all[2:7], all[4:8], all} {
		add(l)
	}
	for _, l := range [][]bool{nil, {}, {true}, {false, true}, {true, false, true, true}} {
		add(l)
	}
}

// addMarks adds clauses of which marks force some literals and one of which they break, more marks, some that may not be, and what is learnt of them, some of which can't be.
func addMarks(add func(v any)) {
	l := []api.Clause{{1}, {-2, 3}, {-2, -1, 4}, {-3, -4, 5}, {-4, -5}}
	at := func(lit, level, reason int) api.Mark { return api.Mark{Lit: lit, Level: level, Reason: reason} }
	marks := []api.Mark{at(1, 0, 0), at(6, 1, -1), at(2, 2, -1), at(3, 2, 1), at(4, 2, 2), at(5, 2, 3)}
	add(l)
	for _, m := range [][]api.Mark{nil, {}, marks[:1], marks, marks[1:], {at(-2, 1, -1), at(3, 2, -1)}, {at(0, 1, -1), at(math.MinInt, 2, math.MaxInt)}} {
		add(m)
	}
	first, _ := analyse.First(l, marks, 4)
	for _, o := range []api.Learnt{{}, first, {Clause: api.Clause{-4, -6}, Back: 7, Chain: []int{9, -9}}, {Clause: api.Clause{-4, -3}}, {Clause: api.Clause{2, 0}, Chain: []int{}}} {
		add(o)
	}
	add(first.Chain)
}

// addForms adds all that layer 6 is given: forms, affine ones, lists of weights, of values and of variables.
func addForms(add func(v any)) {
	rats, deltas, forms := someRats(), someDeltas(), someForms()
	var weighted []api.Weighted
	for i, f := range forms {
		add(f)
		of := api.Affine{Form: f, Const: rats[(5*i+7)%len(rats)]}
		add(of)
		weighted = append(weighted, api.Weighted{Of: of, Coef: rats[(3*i+6)%len(rats)]})
		add(weighted[i:])
	}
	for _, l := range [][]api.Weighted{nil, {}, weighted[2:5], {weighted[4], weighted[4]}} {
		add(l)
	}
	for _, l := range [][]api.Rat{nil, {}, rats[1:2], rats[5:6], rats[7:9], rats[3:8], rats} {
		add(l)
	}
	for _, l := range [][]api.Delta{nil, {}, deltas[:1], deltas[11:12], deltas[9:13], deltas} {
		add(l)
	}
	for _, l := range [][]int{nil, {}, {4}, {5, 5, 5, 5}, {3, 2, 1, 0}, {math.MaxInt, math.MinInt, -1, 0, 9}, {7, 7, 7, 1, 2, 7, 7}} {
		add(l)
	}
}

// addBounds adds all that layer 10 is given of rows: rows, lists of limits, and implied bounds, those that follow from these and some that do not.
func addBounds(add func(v any)) {
	rows := someRows()
	for _, r := range rows {
		add(r)
	}
	all := someLimits()
	for _, l := range [][]api.Limit{nil, {}, all[:1], all[3:5], all} {
		add(l)
	}
	add(api.Implied{})
	for _, i := range implied.Row(rows[0], all) {
		add(i)
	}
	i := implied.Row(rows[2], all)[1]
	add(i)
	add(api.Implied{Var: i.Var, Upper: !i.Upper, At: i.At, By: i.By})
	add(api.Implied{Var: -5, At: i.At, By: i.By[1:]})
}

// someRows has Basic in the Form, parts that fall away, and variables that have no place.
func someRows() []api.Row {
	rats := someRats()
	at := func(v, i int) api.Mono { return api.Mono{Var: v, Coef: rats[i]} }
	return []api.Row{
		{Basic: 2, Form: api.Form{at(1, 9), at(0, 7), at(2, 1), at(0, 11)}}, {Basic: 1}, {Basic: 3, Form: api.Form{at(3, 8), at(0, 5), at(1, 15), at(3, 13)}},
		{Basic: 0, Form: api.Form{{Coef: ratio.Whole(1)}}}, {Basic: math.MinInt, Form: api.Form{at(math.MaxInt, 5)}}, {Basic: -1, Form: api.Form{at(2, 10), at(4, 12), at(2, 9)}},
	}
}

// someLimits has places with both bounds, with one, with none; those that are none have other fields all the same.
func someLimits() []api.Limit {
	deltas := someDeltas()
	var out []api.Limit
	for i := range 7 {
		out = append(out, api.Limit{
			Lower: api.Bound{Has: i%4 != 3, At: deltas[(7*i+11)%len(deltas)], Why: i - 2},
			Upper: api.Bound{Has: i%3 != 2, At: deltas[(5*i+17)%len(deltas)], Why: i * i},
		})
	}
	return out
}

// addAtoms adds atoms with and without a Name, of one line and of several, and lists of them.
func addAtoms(add func(v any)) {
	rats, forms := someRats(), someForms()
	all := []api.Atom{{}, {Name: "p"}, {Name: "p", Form: forms[2], Bound: rats[5], Strict: true}, {Name: "\xff"}}
	for i, f := range forms {
		all = append(all, api.Atom{Form: f, Bound: rats[(3*i+5)%len(rats)], Strict: i%3 == 0})
	}
	for _, a := range all {
		add(a)
	}
	for _, l := range [][]api.Atom{nil, {}, all[:1], all[5:7], {all[1], all[4], all[2], all[1]}, all} {
		add(l)
	}
	for _, l := range someTables() {
		add(l)
	}
}

// someTables may be as tables of layer 17, but for the last one, in which an atom stands twice.
func someTables() [][]api.Atom {
	rats, names := someRats(), []string{"p", "x", "7"}
	all := atoms.New()
	for i, f := range someForms()[2:8] {
		all, _, _ = atoms.Below(all, api.Affine{Form: f, Const: rats[(3*i+5)%len(rats)]}, i%2 == 0)
		if i < len(names) {
			all, _, _ = atoms.Name(all, names[i])
		}
	}
	return [][]api.Atom{all[:1], all[:3], all, append(all[:5:5], all[2])}
}

// someSimplexes has one without variables, one in which some forms have an end, one in which all have, and one whose bounds clash.
func someSimplexes() []*simplex.Simplex {
	out := []*simplex.Simplex{simplex.New()}
	for _, bounds := range []int{2, 4, 13} {
		s := simplex.New()
		for range 4 {
			s.Var()
		}
		for _, f := range someForms() {
			s.Define(f) // where there are all its variables
		}
		for v := range bounds {
			l := someLimits()[v%7]
			s.Press(v, l.Upper.At, v)
			if _, e := s.Lift(v, l.Lower.At, v); e != api.OK {
				s.Lift(v, l.Upper.At, v)
			}
		}
		out = append(out, s)
	}
	return out
}

// someDuals has two that prove something in one of someSimplexes, and some that can't be.
func someDuals() [][]api.Multiplier {
	rats := someRats()
	out := [][]api.Multiplier{nil, {{Why: 1, Coef: rats[0]}}, {{Why: 3, Coef: rats[9]}, {Why: 0, Coef: rats[6]}}, {{Why: -1, Coef: rats[5]}}}
	for _, i := range []int{4, 7} {
		o, _ := optimum.Greatest(someSimplexes()[2], api.Affine{Form: someForms()[i]})
		out = append(out, o.Dual)
	}
	return out
}

// someBanks has two that nobody made, one without terms, and one whose terms 0 to 9 have some constants of both sorts.
func someBanks() []*terms.Bank {
	b := terms.New()
	for i, name := range []string{"x", "p", "y", "q"} {
		b.Declare(name, api.SortReal-i%2)
	}
	b.Stand(2)
	for _, t := range []api.Term{
		{Kind: api.TermAdd, Kids: []int{0, 2, 0}}, {Kind: api.TermScale, Number: someRats()[15], Kids: []int{5}}, {Kind: api.TermLess, Kids: []int{0, 4}}, {Kind: api.TermIte, Kids: []int{7, 6, 2}}, {Kind: api.TermDistinct, Kids: []int{8, 0, 6}},
	} {
		b.Add(t)
	}
	return []*terms.Bank{nil, {}, terms.New(), b, normalBank()}
}

// normalBank has terms in normal form at the places 0 to 3 and 40.
func normalBank() *terms.Bank {
	b := terms.New()
	b.Declare("p", api.SortBool)
	b.Declare("q", api.SortBool)
	add := func(kind int, number int64, kids ...int) int {
		n, _ := b.Add(api.Term{Kind: kind, Number: ratio.Whole(number), Kids: kids})
		return n
	}
	or := add(api.TermOr, 0, 0, 1)
	last := add(api.TermIte, 0, or, 0, 1)
	x, _ := b.Declare("x", api.SortReal)
	y, _ := b.Declare("y", api.SortReal)
	sum := add(api.TermAdd, 0, x, add(api.TermScale, -7, y))
	for i := int64(0); b.Len() < 40; i++ {
		atom := add(api.TermLess+int(i%2), 0, sum, add(api.TermNumber, i))
		last = add(api.TermAnd+int(i%2), 0, min(last, atom), max(last, atom))
	}
	add(api.TermEqual, 0, or, last)
	return b
}

// someBindings has values of all sorts and of none, in which what does not count is something too.
func someBindings() [][]api.Binding {
	var all []api.Binding
	for i, r := range someRats() {
		all = append(all, api.Binding{Name: []string{"x", "p", "y", "q", "\x002"}[i%5], Value: api.Value{Sort: []int{api.SortReal, api.SortBool, api.SortReal, api.SortBool, api.SortReal, 0, 7}[i%7], Bool: i%3 > 0, Real: r}})
	}
	return [][]api.Binding{nil, {}, all[:1], all[:5], all[7:12], {all[3], all[0], all[0], all[14], all[7]}, all[3:], all}
}

// someForms has forms in any order, with one variable in several parts, with parts that are 0 or cancel one another.
func someForms() []api.Form {
	rats := someRats()
	at := func(v, i int) api.Mono { return api.Mono{Var: v, Coef: rats[i]} }
	all := api.Form{}
	for i := range rats {
		all = append(all, at(i*i%7-1, i))
	}
	half, minus := rats[5], rats[6]
	return []api.Form{
		nil, {}, {at(0, 5)}, {at(0, 0)}, {at(1, 9)}, {at(1, 10)}, {at(3, 7), at(2, 8), at(0, 6)}, {at(0, 8), at(1, 9), at(2, 11)},
		{{Var: 2, Coef: half}, at(0, 7), {Var: 2, Coef: minus}}, {{Var: 1, Coef: half}, {Var: 1, Coef: minus}}, {at(1, 9), at(1, 9), at(3, 10)},
		{at(math.MaxInt, 5), at(math.MinInt, 11), at(-1, 9)}, {at(1, 1), at(-1, 2), at(9, 3)}, {at(2, 13), at(0, 15)}, {at(-5, 14), at(3, 16), at(-5, 9)}, all,
	}
}

// someTableaus has some that may not be too. Of those that may be some have as many variables as there are values in one of the lists of addForms.
func someTableaus() []api.Tableau {
	rats := someRats()
	at := func(v, i int) api.Mono { return api.Mono{Var: v, Coef: rats[i]} }
	row := func(basic int, parts ...api.Mono) api.Row { return api.Row{Basic: basic, Form: parts} }
	sum, part := row(2, at(1, 9), at(0, 7), at(2, 1), at(0, 11)), row(3, at(0, 8), at(9, 5), at(1, 15), at(9, 6))
	all := row(33)
	for i := range rats {
		all.Form = append(all.Form, at(2*i, i), at(i, i))
	}
	return []api.Tableau{
		{}, {Rows: []api.Row{}}, {Vars: 1, Rows: []api.Row{row(0)}}, {Vars: 4}, {Vars: 4, Rows: []api.Row{part, sum}}, {Vars: 4, Rows: []api.Row{row(1, at(0, 16)), row(3, at(0, 9)), row(2)}},
		{Vars: 4, Rows: []api.Row{row(0, at(3, 10), at(2, 14)), row(1, at(2, 13), at(3, 12))}}, {Vars: 34, Rows: []api.Row{all, row(31, at(3, 5), at(1, 7), at(0, 8))}}, {Vars: api.MaxVars, Rows: []api.Row{sum}},
		{Vars: -1}, {Vars: api.MaxVars + 1}, {Vars: 4, Rows: []api.Row{sum, row(0)}}, {Vars: 4, Rows: []api.Row{sum, sum}}, {Vars: 4, Rows: []api.Row{row(2, at(4, 9))}}, {Vars: 2, Rows: []api.Row{sum}},
	}
}

func someFloats() []float64 {
	return []float64{
		0, math.Copysign(0, -1), math.SmallestNonzeroFloat64, -math.SmallestNonzeroFloat64, 0x1p-1022, -0.1, 1, 123.456,
		-math.MaxFloat64, math.MaxFloat64, math.Inf(1), math.Inf(-1), math.NaN(), math.Float64frombits(math.MaxUint64),
	}
}

// someSpans has some that may not be too.
func someSpans() []api.Span {
	below, none := math.Copysign(0, -1), math.NaN()
	return []api.Span{
		{}, {Lo: 0, Hi: below}, {Lo: -1, Hi: 2}, {Lo: math.Inf(-1), Hi: -0.1}, {Lo: 0.1, Hi: math.Inf(1)}, {Lo: math.Inf(-1), Hi: math.Inf(1)}, {Lo: -math.SmallestNonzeroFloat64, Hi: below}, {Lo: -math.MaxFloat64, Hi: math.MaxFloat64},
		{Lo: 2, Hi: 1}, {Lo: none, Hi: none}, {Lo: none, Hi: 1}, {Lo: math.Inf(1), Hi: math.Inf(1)}, {Lo: math.Inf(-1), Hi: math.Inf(-1)},
	}
}

// someRats has numbers without a Den, not in lowest terms, and with noughts at the end of their lists.
func someRats() []api.Rat {
	limbs := someLimbs()
	long, short := limbs[len(limbs)-1], api.Nat{3, 0}
	below := func(abs api.Nat) api.Int { return api.Int{Neg: true, Abs: abs} }
	return []api.Rat{
		{}, {Num: whole.Of(5)}, {Num: below(long), Den: api.Nat{0, 0}}, {Num: below(nil), Den: short}, {Num: below(api.Nat{0}), Den: long},
		{Num: whole.Of(1), Den: api.Nat{2}}, {Num: below(api.Nat{1, 0, 0}), Den: api.Nat{2, 0}}, {Num: whole.Of(6), Den: api.Nat{4}}, {Num: whole.Of(-7), Den: api.Nat{2}},
		{Num: whole.Of(3), Den: api.Nat{1}}, {Num: below(short), Den: api.Nat{1, 0}}, {Num: whole.Of(415), Den: api.Nat{93}}, {Num: below(api.Nat{0, 0, 1}), Den: short},
		{Num: api.Int{Abs: long}, Den: short}, {Num: below(long), Den: long}, {Num: below(long), Den: limbs[len(limbs)-2]}, {Num: whole.Of(1), Den: api.Nat{0, 0, 0, 1}},
	}
}

// someDeltas has every one of someRats as its A and as its B, and some with the same A.
func someDeltas() []api.Delta {
	rats := someRats()
	var out []api.Delta
	for i, a := range rats {
		out = append(out, api.Delta{A: a, B: rats[(i+5)%len(rats)]}, api.Delta{A: a, B: rats[(3*i+7)%len(rats)]})
	}
	return out
}

// someGaps has gaps in any order of their ends: some lists have some whose Lo is above the Hi, some have none.
func someGaps() [][]api.Gap {
	l := someDeltas()
	var all, right []api.Gap
	out := [][]api.Gap{nil, {}, {{}}}
	for i, lo := range l {
		g := api.Gap{Lo: lo, Hi: l[(5*i+3)%len(l)]}
		all = append(all, g)
		out = append(out, []api.Gap{g}, []api.Gap{{Lo: lo, Hi: lo}, g})
		if delta.Cmp(g.Lo, g.Hi) > 0 {
			g = api.Gap{Lo: g.Hi, Hi: g.Lo}
		}
		right = append(right, g)
		out = append(out, []api.Gap{g})
	}
	return append(out, all, right, right[3:9])
}

// someLists has numbers of continued fractions, and some that are of none.
func someLists() [][]api.Int {
	limbs := someLimbs()
	n := func(abs ...uint32) api.Int { return api.Int{Abs: abs} }
	return [][]api.Int{
		nil, {}, {n()}, {n(5)}, {{Neg: true, Abs: api.Nat{5, 0}}}, {n(4), n(2), n(6), n(7)}, {n(), n(1), n(1)}, {{Neg: true}, n(2, 0)},
		{n(1), n(0)}, {n(1), {Neg: true, Abs: api.Nat{3}}, n(2)}, {n(1), n(2), n()}, {{Neg: true, Abs: limbs[len(limbs)-1]}, n(1), n(0, 0, 7), n(1, 0)},
	}
}

func someLimbs() []api.Nat {
	const full = 0xffffffff
	long := make(api.Nat, 70)
	for i := range long {
		long[i] = full - uint32(i*i)
	}
	return []api.Nat{
		nil, {}, {0}, {0, 0}, {1}, {1, 0}, {2}, {6, 0, 0}, {7}, {12}, {0x80000000}, {full},
		{0, 1}, {full, full}, {0, 0x80000000}, {0, 0, 1}, {full, full, full, 0}, long,
	}
}

// eachCall hands on every function with every choice of its arguments.
func eachCall(do func(f listed, args []reflect.Value)) {
	from := arguments()
	for _, f := range numberFunctions() {
		eachChoice(from, reflect.TypeOf(f.do), nil, func(args []reflect.Value) { do(f, args) })
	}
}

func eachChoice(from drawn, f reflect.Type, head []reflect.Value, do func(args []reflect.Value)) {
	if len(head) == f.NumIn() {
		do(head)
		return
	}
	choices := from[f.In(len(head))]
	if len(choices) == 0 {
		panic("nothing to draw from: " + f.In(len(head)).String())
	}
	for _, v := range choices {
		eachChoice(from, f, append(head[:len(head):len(head)], reflect.ValueOf(v)), do)
	}
}

func call(f listed, args []reflect.Value) []reflect.Value {
	return reflect.ValueOf(f.do).Call(args)
}

// tell is values as a text, in which nil and the empty list are the same.
func tell(l []reflect.Value) string {
	var out strings.Builder
	for _, v := range l {
		tellOne(&out, v)
		out.WriteByte(' ')
	}
	return out.String()
}

func tellOne(out *strings.Builder, v reflect.Value) {
	if v.Kind() != reflect.Slice && v.Kind() != reflect.Struct {
		fmt.Fprintf(out, "%#v", v.Interface())
		return
	}
	out.WriteByte('(')
	out.WriteString(tell(parts(v)))
	out.WriteByte(')')
}

// parts is the elements of a list, or the fields of a struct.
func parts(v reflect.Value) []reflect.Value {
	var out []reflect.Value
	switch v.Kind() {
	case reflect.Slice:
		for i := range v.Len() {
			out = append(out, v.Index(i))
		}
	case reflect.Struct:
		for i := range v.NumField() {
			out = append(out, v.Field(i))
		}
	}
	return out
}

// remade is a value in new memory, each of its lists made by remake from a copy of itself.
func remade(v reflect.Value, remake func(list reflect.Value) reflect.Value) reflect.Value {
	out := reflect.New(v.Type()).Elem()
	switch v.Kind() {
	case reflect.Slice:
		list := reflect.MakeSlice(v.Type(), v.Len(), v.Len())
		for i := range v.Len() {
			list.Index(i).Set(remade(v.Index(i), remake))
		}
		out.Set(remake(list))
	case reflect.Struct:
		for i := range v.NumField() {
			out.Field(i).Set(remade(v.Field(i), remake))
		}
	default:
		out.Set(v)
	}
	return out
}

func remadeAll(l []reflect.Value, remake func(list reflect.Value) reflect.Value) []reflect.Value {
	var out []reflect.Value
	for _, v := range l {
		out = append(out, remade(v, remake))
	}
	return out
}

// guarded is arguments whose lists are pieces of longer ones, which are told too.
func guarded(l []reflect.Value) (args, longer []reflect.Value) {
	args = remadeAll(l, func(list reflect.Value) reflect.Value {
		const ahead, behind = 2, 3
		all := reflect.MakeSlice(list.Type(), ahead+list.Len()+behind, ahead+list.Len()+behind)
		for i := range all.Len() {
			mark(all.Index(i))
		}
		reflect.Copy(all.Slice(ahead, ahead+list.Len()), list)
		longer = append(longer, all)
		return all.Slice(ahead, ahead+list.Len())
	})
	return args, longer
}

// mark fills what lies around a list, so that a change of it is seen.
func mark(v reflect.Value) {
	switch {
	case v.CanUint():
		v.SetUint(0xdeadbeef)
	case v.CanInt():
		v.SetInt(0x5eadbeef)
	case v.Kind() == reflect.Bool:
		v.SetBool(true)
	case v.Kind() == reflect.String:
		v.SetString("behind")
	case v.Kind() == reflect.Slice:
		v.Set(reflect.MakeSlice(v.Type(), 1, 1))
		mark(v.Index(0))
	case v.Kind() == reflect.Struct:
		for _, part := range parts(v) {
			mark(part)
		}
	}
}

// room is the memory of a list, its spare room too, and of what still stands there.
type room struct{ from, to uintptr }

func rooms(l []reflect.Value) []room {
	var out []room
	for _, v := range l {
		if v.Kind() == reflect.Slice && v.Cap() > 0 {
			out = append(out, room{v.Pointer(), v.Pointer() + uintptr(v.Cap())*v.Type().Elem().Size()})
			v = v.Slice(0, v.Cap())
		}
		out = append(out, rooms(parts(v))...)
	}
	return out
}

func overlap(a, b room) bool {
	return a.from < b.to && b.from < a.to
}

// Every function of a package that stands in the list is there.
func TestEveryNumberFunctionIsListed(t *testing.T) {
	packs, names := map[string]bool{}, map[string]bool{}
	for _, f := range numberFunctions() {
		pack, _, _ := strings.Cut(f.name, ".")
		packs[pack], names[f.name] = true, true
	}
	for _, s := range sources(t) {
		for _, d := range s.file.Decls {
			f, ok := d.(*ast.FuncDecl)
			if ok && f.Name.IsExported() && packs[s.pack] && !names[s.pack+"."+f.Name.Name] {
				t.Errorf("%s.%s is not listed", s.pack, f.Name.Name)
			}
		}
	}
}

// A panic would end the test; so would a call that does not end.
func TestR1NoCallPanics(t *testing.T) {
	n := 0
	eachCall(func(f listed, args []reflect.Value) {
		call(f, args)
		n++
	})
	if n == 0 {
		t.Fatal("nothing was called")
	}
}

func isError(v reflect.Value) bool {
	return v.Type() == reflect.TypeFor[api.Errno]() && v.Int() != 0
}

func TestR2NothingBesideAnError(t *testing.T) {
	eachCall(func(f listed, args []reflect.Value) {
		l := call(f, args)
		at := slices.IndexFunc(l, isError)
		if at < 0 {
			return
		}
		for _, v := range l[:at] { // behind the error its place may be told
			if tell([]reflect.Value{v}) != tell([]reflect.Value{reflect.Zero(v.Type())}) {
				t.Fatalf("%s of %s: %s", f.name, tell(args), tell(l))
			}
		}
	})
}

func TestR3ArgumentsStayAsTheyAre(t *testing.T) {
	eachCall(func(f listed, args []reflect.Value) {
		given, longer := guarded(args)
		was := tell(longer)
		got := tell(call(f, given))
		if tell(longer) != was {
			t.Fatalf("%s of %s has changed what it was given", f.name, tell(args))
		}
		if want := tell(call(f, args)); got != want {
			t.Fatalf("%s of %s hangs on what lies behind a list: %s, not %s", f.name, tell(args), got, want)
		}
	})
}

func TestR3AnswersAreNewMemory(t *testing.T) {
	eachCall(func(f listed, args []reflect.Value) {
		given, longer := guarded(args)
		first, second := call(f, given), call(f, given)
		answers, lent := append(rooms(first), rooms(second)...), rooms(longer)
		for i, a := range answers {
			for _, others := range [][]room{answers[i+1:], lent} {
				if slices.ContainsFunc(others, func(b room) bool { return overlap(a, b) }) {
					t.Fatalf("%s of %s: an answer shares its memory", f.name, tell(args))
				}
			}
		}
	})
}

// One list given as all arguments of its type.
func TestR3SharedArguments(t *testing.T) {
	eachCall(func(f listed, args []reflect.Value) {
		shared := make([]reflect.Value, len(args))
		for i, v := range args {
			shared[i] = v
			for j := range i {
				if args[j].Type() == v.Type() {
					shared[i] = args[j]
					break
				}
			}
		}
		apart := remadeAll(shared, func(list reflect.Value) reflect.Value { return list })
		if got, want := tell(call(f, shared)), tell(call(f, apart)); got != want {
			t.Fatalf("%s of %s: %s, not %s", f.name, tell(shared), got, want)
		}
	})
}

func TestR3NilIsTheEmptyList(t *testing.T) {
	eachCall(func(f listed, args []reflect.Value) {
		withNil := remadeAll(args, func(list reflect.Value) reflect.Value {
			if list.Len() == 0 {
				return reflect.Zero(list.Type())
			}
			return list
		})
		withEmpty := remadeAll(args, func(list reflect.Value) reflect.Value { return list })
		if a, b := tell(call(f, withNil)), tell(call(f, withEmpty)); a != b {
			t.Fatalf("%s of %s tells nil from the empty list: %s and %s", f.name, tell(args), a, b)
		}
	})
}

// The same call answers the same, whatever was called ahead of it or is called beside it.
func TestR4AnswersHangOnArgumentsAlone(t *testing.T) {
	var told []string
	eachCall(func(f listed, args []reflect.Value) { told = append(told, tell(call(f, args))) })
	var wait sync.WaitGroup
	for range 4 {
		wait.Go(func() {
			i := 0
			eachCall(func(f listed, args []reflect.Value) {
				if again := tell(call(f, args)); again != told[i] {
					t.Errorf("%s of %s: %s, then %s", f.name, tell(args), told[i], again)
				}
				i++
			})
		})
	}
	wait.Wait()
}

// Noughts at the end of a list, the sign of 0, what is divided by 0 and what divides both parts count for nothing.
func TestNumbersAreReadAsTheyAre(t *testing.T) {
	eachCall(func(f listed, args []reflect.Value) {
		var other []reflect.Value
		for _, v := range args {
			if isTable(f, v) {
				other = append(other, v)
				continue
			}
			other = append(other, otherwise(v))
		}
		if got, want := tell(call(f, other)), tell(call(f, args)); got != want {
			t.Fatalf("%s of %s: %s, but of %s: %s", f.name, tell(args), want, tell(other), got)
		}
	})
}

// isTable: an argument that is a table of layer 17, whose numbers have one way to be written.
func isTable(f listed, v reflect.Value) bool {
	pack, _, _ := strings.Cut(f.name, ".")
	return (pack == "atoms" || pack == "clauses") && v.Type() == reflect.TypeFor[[]api.Atom]()
}

// otherwise is the same value, its numbers written otherwise.
func otherwise(v reflect.Value) reflect.Value {
	switch x := v.Interface().(type) {
	case api.Nat:
		return reflect.ValueOf(otherNat(x))
	case api.Int:
		return reflect.ValueOf(otherInt(x))
	case api.Rat:
		return reflect.ValueOf(otherRat(x))
	case []api.Int:
		var out []api.Int
		for _, a := range x {
			out = append(out, otherInt(a))
		}
		return reflect.ValueOf(out)
	case api.Delta:
		return reflect.ValueOf(otherDelta(x))
	case []api.Gap:
		var out []api.Gap
		for _, g := range x {
			out = append(out, api.Gap{Lo: otherDelta(g.Lo), Hi: otherDelta(g.Hi)})
		}
		return reflect.ValueOf(out)
	case api.Form:
		return reflect.ValueOf(otherForm(x))
	case api.Affine:
		return reflect.ValueOf(otherAffine(x))
	case []api.Weighted:
		var out []api.Weighted
		for _, w := range x {
			out = append(out, api.Weighted{Of: otherAffine(w.Of), Coef: otherRat(w.Coef)})
		}
		return reflect.ValueOf(out)
	case api.Tableau:
		return reflect.ValueOf(otherTableau(x))
	case api.Row:
		return reflect.ValueOf(api.Row{Basic: x.Basic, Form: otherForm(x.Form)})
	case []api.Limit:
		var out []api.Limit
		for _, l := range x {
			out = append(out, api.Limit{Lower: otherBound(l.Lower), Upper: otherBound(l.Upper)})
		}
		return reflect.ValueOf(append(out, api.Limit{}))
	case api.Implied:
		return reflect.ValueOf(otherImplied(x))
	case []api.Multiplier:
		return reflect.ValueOf(otherMultipliers(x))
	case api.Atom:
		return reflect.ValueOf(otherAtom(x))
	case []api.Atom:
		var out []api.Atom
		for _, a := range x {
			out = append(out, otherAtom(a))
		}
		return reflect.ValueOf(out)
	case []api.Rat:
		var out []api.Rat
		for _, r := range x {
			out = append(out, otherRat(r))
		}
		return reflect.ValueOf(out)
	case []api.Delta:
		var out []api.Delta
		for _, d := range x {
			out = append(out, otherDelta(d))
		}
		return reflect.ValueOf(out)
	case []api.Binding:
		var out []api.Binding
		for _, b := range x {
			out = append(out, api.Binding{Name: b.Name, Value: otherValue(b.Value)})
		}
		return reflect.ValueOf(out)
	}
	return v
}

// otherValue has another truth, if it is none, and another number, if it is none.
func otherValue(v api.Value) api.Value {
	out := api.Value{Sort: v.Sort, Bool: !v.Bool, Real: ratio.Add(v.Real, ratio.Whole(1))}
	switch v.Sort {
	case api.SortBool:
		out.Bool = v.Bool
	case api.SortReal:
		out.Real = otherRat(v.Real)
	}
	return out
}

// otherForm has its parts the other way round, two more that cancel one another and one that is 0.
func otherForm(f api.Form) api.Form {
	one := ratio.Whole(1)
	out := api.Form{{Var: 77, Coef: one}, {Var: -77}}
	for i := len(f) - 1; i >= 0; i-- {
		out = append(out, api.Mono{Var: f[i].Var, Coef: otherRat(f[i].Coef)})
	}
	return append(out, api.Mono{Var: 77, Coef: ratio.Neg(one)})
}

func otherAffine(f api.Affine) api.Affine {
	return api.Affine{Form: otherForm(f.Form), Const: otherRat(f.Const)}
}

// otherTableau has its rows the other way round.
func otherTableau(t api.Tableau) api.Tableau {
	out := api.Tableau{Vars: t.Vars}
	for i := len(t.Rows) - 1; i >= 0; i-- {
		out.Rows = append(out.Rows, api.Row{Basic: t.Rows[i].Basic, Form: otherForm(t.Rows[i].Form)})
	}
	return out
}

// otherBound has other fields, if it is none.
func otherBound(b api.Bound) api.Bound {
	if !b.Has {
		return api.Bound{At: delta.Neg(b.At), Why: b.Why + 1}
	}
	return api.Bound{Has: true, At: otherDelta(b.At), Why: b.Why}
}

func otherImplied(i api.Implied) api.Implied {
	return api.Implied{Var: i.Var, Upper: i.Upper, At: otherDelta(i.At), By: otherMultipliers(i.By)}
}

func otherMultipliers(l []api.Multiplier) []api.Multiplier {
	var out []api.Multiplier
	for _, m := range l {
		out = append(out, api.Multiplier{Why: m.Why, Coef: otherRat(m.Coef)})
	}
	return out
}

// otherAtom has another form, if it has a Name.
func otherAtom(a api.Atom) api.Atom {
	if a.Name != "" {
		return api.Atom{Name: a.Name, Form: append(otherForm(a.Form), api.Mono{Var: 7, Coef: ratio.Whole(1)}), Bound: ratio.Neg(a.Bound), Strict: !a.Strict}
	}
	return api.Atom{Form: otherForm(a.Form), Bound: otherRat(a.Bound), Strict: a.Strict}
}

func otherNat(a api.Nat) api.Nat {
	return append(append(api.Nat{}, a...), 0)
}

func otherInt(a api.Int) api.Int {
	return api.Int{Neg: a.Neg != isNought(a.Abs), Abs: otherNat(a.Abs)}
}

func otherRat(r api.Rat) api.Rat {
	switch {
	case isNought(r.Den):
		return api.Rat{Num: whole.Add(r.Num, whole.Of(7)), Den: otherNat(r.Den)}
	case isNought(r.Num.Abs):
		return api.Rat{Num: otherInt(r.Num), Den: api.Nat{5, 5}}
	}
	six := whole.Of(6)
	return api.Rat{Num: otherInt(whole.Mul(r.Num, six)), Den: otherNat(whole.Mul(api.Int{Abs: r.Den}, six).Abs)}
}

func otherDelta(d api.Delta) api.Delta {
	return api.Delta{A: otherRat(d.A), B: otherRat(d.B)}
}

func isNought(a api.Nat) bool {
	return bigOf(a).Sign() == 0
}

func bigOf(a api.Nat) *big.Int {
	out := new(big.Int)
	for i, limb := range a {
		out.Add(out, new(big.Int).Lsh(big.NewInt(int64(limb)), uint(32*i)))
	}
	return out
}

func TestAnswersAreNormal(t *testing.T) {
	eachCall(func(f listed, args []reflect.Value) {
		l := call(f, args)
		if isError(l[len(l)-1]) {
			return
		}
		for _, v := range l {
			if !isNormal(v) {
				t.Fatalf("%s of %s: %s is not normal", f.name, tell(args), tell(l))
			}
		}
	})
}

func isNormal(v reflect.Value) bool {
	switch x := v.Interface().(type) {
	case api.Nat:
		return len(x) == 0 || x[len(x)-1] != 0
	case api.Int:
		return isNormal(reflect.ValueOf(x.Abs)) && (len(x.Abs) > 0 || !x.Neg)
	case api.Rat:
		common := new(big.Int).GCD(nil, nil, bigOf(x.Num.Abs), bigOf(x.Den))
		return isNormal(reflect.ValueOf(x.Num)) && isNormal(reflect.ValueOf(x.Den)) && len(x.Den) > 0 && common.Cmp(big.NewInt(1)) == 0
	case api.Delta:
		return isNormal(reflect.ValueOf(x.A)) && isNormal(reflect.ValueOf(x.B))
	case []api.Int:
		for _, a := range x {
			if !isNormal(reflect.ValueOf(a)) {
				return false
			}
		}
	case api.Form:
		for i, part := range x {
			if !isNormal(reflect.ValueOf(part.Coef)) || bigOf(part.Coef.Num.Abs).Sign() == 0 || i > 0 && x[i-1].Var >= part.Var {
				return false
			}
		}
	case api.Affine:
		return isNormal(reflect.ValueOf(x.Form)) && isNormal(reflect.ValueOf(x.Const))
	case []api.Delta:
		for _, d := range x {
			if !isNormal(reflect.ValueOf(d)) {
				return false
			}
		}
	case []api.Implied:
		for _, i := range x {
			if !isNormal(reflect.ValueOf(i.At)) || !isNormal(reflect.ValueOf(i.By)) {
				return false
			}
		}
	case []api.Multiplier:
		return !slices.ContainsFunc(x, func(m api.Multiplier) bool { return !isNormal(reflect.ValueOf(m.Coef)) })
	case []api.Atom:
		return !slices.ContainsFunc(x, func(a api.Atom) bool {
			return !isNormal(reflect.ValueOf(a.Form)) || !isNormal(reflect.ValueOf(a.Bound))
		})
	case api.Encoded:
		return isNormal(reflect.ValueOf(x.Atoms))
	case api.Value:
		return isAnswer(x)
	case []api.Binding:
		return !slices.ContainsFunc(x, func(b api.Binding) bool { return !isNormal(reflect.ValueOf(b.Value)) })
	case api.Optimum:
		hasValue := x.Kind != api.OptUnbounded // else there is no number
		return isNormal(reflect.ValueOf(x.Values)) && isNormal(reflect.ValueOf(x.Dual)) && (!hasValue || isNormal(reflect.ValueOf(x.Value)))
	case api.Tableau:
		for i, row := range x.Rows {
			if !isNormal(reflect.ValueOf(row.Form)) || i > 0 && x.Rows[i-1].Basic >= row.Basic {
				return false
			}
		}
	}
	return true
}

// isAnswer tells whether a value is normal, and has nothing that does not count.
func isAnswer(v api.Value) bool {
	noNumber := !v.Real.Num.Neg && len(v.Real.Num.Abs) == 0 && len(v.Real.Den) == 0
	switch v.Sort {
	case api.SortBool:
		return noNumber
	case api.SortReal:
		return !v.Bool && isNormal(reflect.ValueOf(v.Real))
	}
	return noNumber && !v.Bool
}
