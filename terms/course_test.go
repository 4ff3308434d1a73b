package terms_test

import (
	"fmt"
	"math/rand"
	"slices"
	"strings"
	"testing"

	"fulcrum/api"
	"fulcrum/terms"
)

// wantNumberIn: in a body a text is a number, that one: what divides by how far it is from it is refused, and what divides by how far it is from the next one is not.
func wantNumberIn(t *testing.T, b *terms.Bank, in, number string) {
	t.Helper()
	by := "(/ 1 (- " + in + " " + number + "))"
	wantNotDefined(t, b, "probe", nil, api.SortReal, node(by), api.ErrDivide, by)
	define(t, b, "probe", nil, api.SortReal, "(/ 1 (- "+in+" "+number+" 1))")
	wantErr(t, "Forget", b.Forget(b.Names()-1), api.OK)
}

// wantNoNumberIn: in a body a text is no number.
func wantNoNumberIn(t *testing.T, b *terms.Bank, in string) {
	t.Helper()
	by := "(/ 1 " + in + ")"
	wantNotDefined(t, b, "probe", nil, api.SortReal, node(by), api.ErrDivide, by)
	define(t, b, "probe", nil, api.SortReal, in)
	wantErr(t, "Forget", b.Forget(b.Names()-1), api.OK)
}

// In Define macros that would reckon with more numbers than there is time for say what they say.
func TestB3TowersOfNumbers(t *testing.T) {
	b := bank(t)
	tower(t, b, "next", "(+ a 1)", 70)
	tower(t, b, "third", "(- (/ 1 3) a)", 70)
	tower(t, b, "there", "(+ (* 2 (/ a 2)) 1 (- 1))", 70)
	tower(t, b, "back", "(- a (/ 1 7) (- 2))", 64)
	tower(t, b, "huge", "(+ a "+power(bitsOfMost-200)+")", 70)
	tower(t, b, "half", "(/ a 2)", 70)
	tower(t, b, "none", "(ite p a (+ a 1))", 70)
	wantNumberIn(t, b, "(next70 0)", power(70))
	wantNumberIn(t, b, "(next69 (- 0.5))", "(- "+power(69)+" 0.5)")
	wantNumberIn(t, b, "(third70 7)", "7")
	wantNumberIn(t, b, "(third0 (third70 7))", "(- (/ 20 3))")
	wantNumberIn(t, b, "(there70 (/ 1 3))", "(/ 1 3)")
	wantNumberIn(t, b, "(back64 0)", "(* "+power(64)+" (/ 13 7))")
	wantNumberIn(t, b, "(huge70 0)", power(bitsOfMost-130))
	wantNumberIn(t, b, "(half70 0)", "0")
	wantNumberIn(t, b, "(half10 1)", "(/ 1 "+power(1024)+")")
	wantNoNumberIn(t, b, "(next70 x)")
	wantNoNumberIn(t, b, "(none70 1)")
	wantNoNumberIn(t, b, "(next70 (none70 1))")
	wantNotDefined(t, b, "f", nil, api.SortReal, node("(half70 1)"), api.ErrLong, "(half70 1)")
	define(t, b, "f", params("aR"), api.SortReal, "(half70 a)")
	wantNotDefined(t, b, "g", nil, api.SortReal, node("(f 1)"), api.ErrLong, "(f 1)")
	define(t, b, "g", nil, api.SortReal, "(f 0)")
	wantNumber(t, "Len", b.Len(), 4)
}

// Towers over several parameters: each level is two steps of the one below it, for each of the parameters.
func TestB3TowersOfSeveral(t *testing.T) {
	b := bank(t)
	two := func(name, body string) { define(t, b, name, params("aR", "bR"), api.SortReal, body) }
	two("f0", "(+ a b)") // the next two of Fibonacci's numbers would be a sum; here (a, b) becomes (a + b, b)
	two("g0", "b")
	for k := 1; k <= 60; k++ {
		two(fmt.Sprint("f", k), fmt.Sprintf("(f%d (f%[1]d a b) (g%[1]d a b))", k-1))
		two(fmt.Sprint("g", k), fmt.Sprintf("(g%d (f%[1]d a b) (g%[1]d a b))", k-1))
	}
	wantNumberIn(t, b, "(f60 5 7)", "(+ 5 (* 7 "+power(60)+"))")
	wantNumberIn(t, b, "(g60 5 7)", "7")
	wantNumberIn(t, b, "(g60 x 7)", "7")
	wantNoNumberIn(t, b, "(f60 x 7)")
	wantNoNumberIn(t, b, "(f60 7 x)")
	wantNoNumberIn(t, b, "(g60 7 x)")
	wantSays(t, b, "(g3 x y)", "y")
	wantSays(t, b, "(f2 1 2)", "9.0")
}

// Bodies with many long numbers, of which no course is kept: they say the same all the same, and so do those that call them.
func TestB3LongBodies(t *testing.T) {
	w := newWalk(t, rand.New(rand.NewSource(0)), 1000)
	for _, p := range params("xR", "yR", "pB") {
		w.declare(p.Name, p.Sort)
	}
	long := "1" + strings.Repeat("3", 4000)
	for name, body := range map[string]string{
		"sum": "(let ((l (* " + long + " a))) (+" + strings.Repeat(" l b", 10) + "))", "less": "(let ((l (/ a " + long + "))) (-" + strings.Repeat(" l 1", 10) + "))", "times": "(*" + strings.Repeat(" 0.5", 1000) + " a" + strings.Repeat(" 2", 1000) + ")", "over": "(/ a" + strings.Repeat(" 0.5", 1000) + strings.Repeat(" 2", 1000) + ")",
	} {
		w.define(name, params("aR", "bR"), api.SortReal, node(body))
		w.define(name+"2", params("aR"), api.SortReal, node("(+ ("+name+" a 3) ("+name+" 2 x))"))
		w.probe("(" + name + " 3 4)")
		w.probe("(" + name + " x 4)")
		w.probe("(" + name + " 3 x)")
		w.probe("(" + name + "2 5)")
		w.probe("(" + name + " " + power(bitsOfMost-10) + " 5)")
	}
}

// Numbers at the limit, and such as are beyond it on the way alone, in bodies that call macros with them.
func TestB3CoursesAtTheLimit(t *testing.T) {
	w := newWalk(t, rand.New(rand.NewSource(0)), 1000)
	for _, p := range params("xR", "yR", "pB") {
		w.declare(p.Name, p.Sort)
	}
	long := power(bitsOfMost)
	for i, edge := range []string{"(- 1 " + long + ")", power(bitsOfMost - 1), "(/ 3 " + power(bitsOfMost-1) + ")", "(- 0.5 " + power(bitsOfMost-2) + ")", long} {
		w.read(node("(! " + edge + " :named e" + fmt.Sprint(i) + ")"))
	}
	for i, body := range []string{"(+ a 1)", "(+ 1 a)", "(+ a (- 1))", "(- a 1)", "(- 1 a)", "(+ a a)", "(- a a)", "(+ a a (- a))", "(- a)", "(* 2 a)", "(* 2 a 0.25)", "(* a 2 0.25)", "(* 0.25 2 a)", "(* 0.25 a 2)", "(* 2 a 0)", "(* 0 a 2)", "(/ a 2)", "(/ a 0.5)", "(/ a 2 0.5)", "(/ a 4 0.5)", "a", "(ite p (+ a 1) a)", "(ite p a 1)", "(+ a x)", "(let ((z (* 2 a))) 5)", "(let ((z (+ a 1))) x)", "(let ((z (+ a 1)) (u (ite p a 1))) a)", "(+ (- a) a 1)", "(- (- a) 1)"} {
		f, g := fmt.Sprint("f", i), fmt.Sprint("g", i)
		w.define(f, params("aR"), api.SortReal, node(body))
		w.define(g, params("bR", "aR"), api.SortReal, node("(+ ("+f+" a) b (- b))"))
		for _, edge := range []string{"e0", "e1", "e2", "e3", "e4"} {
			w.probe("(" + f + " " + edge + ")")
			w.probe("(" + g + " 1 " + edge + ")")
		}
	}
	for _, want := range []string{"a number 0", "a body 0", "a body 3"} {
		if w.seen[want] < 50 {
			t.Errorf("%s was drawn %d times: %v", want, w.seen[want], w.seen)
		}
	}
}

// lines makes bodies of Real that are mostly numbers where their parameters are.
type lines struct {
	*rand.Rand
	names     []string // parameters, and what may stand in their place
	constants []string
	below     int // it may call f0 to those below, of as many parameters as there are names
}

func (l *lines) pick(of []string) string { return of[l.Intn(len(of))] }

func (l *lines) some(head string, count, deep int) string {
	out := "(" + head
	for range count {
		out += " " + l.body(deep-1)
	}
	return out + ")"
}

func (l *lines) body(deep int) string {
	if deep == 0 || l.Intn(6) == 0 {
		return l.pick([]string{l.pick(l.names), l.pick(l.names), l.pick(l.constants), l.pick([]string{"x", "1", "2"})})
	}
	switch l.Intn(9) {
	case 0:
		return l.some("+", 2+l.Intn(2), deep)
	case 1:
		return l.some("-", 2+l.Intn(2), deep)
	case 2:
		return l.some("-", 1, deep)
	case 3:
		return "(* " + l.pick(l.constants) + " " + l.body(deep-1) + " " + l.pick(l.constants) + ")"
	case 4:
		return "(/ " + l.body(deep-1) + " 2 (- 0.3))"
	case 5:
		return l.pick([]string{"(ite p " + l.body(deep-1) + " 1)", "(let ((a " + l.body(deep-1) + ")) (+ a 1))", "(let ((a " + l.body(deep-1) + ")) 2)"})
	}
	if l.below == 0 {
		return l.body(deep - 1)
	}
	return l.some("f"+fmt.Sprint(l.Intn(l.below)), len(l.names), deep)
}

// probe asks what a text is in a body: a number, what is none, or wrong; all that is said of it must be what the chapter's words say.
func (w *walk) probe(in string) {
	w.t.Helper()
	m := &model{most: 1 << 40, terms: w.m.terms, things: w.m.things}
	v, wrong := m.read(node(in))
	bodies := []string{in, "(/ 1 " + in + ")", "(* y " + in + ")"}
	if wrong.err == api.OK && m.at(v).kind == api.TermNumber {
		number := script(m.at(v).number)
		bodies = append(bodies, "(/ 1 (- "+in+" "+number+"))", "(/ 1 (- "+in+" "+number+" 1))")
		w.saw("a number", wrong.err)
	}
	w.saw("a body", wrong.err)
	for _, body := range bodies {
		here := len(w.m.things)
		w.define("probe", nil, api.SortReal, node(body))
		w.forget(here)
	}
}

// Macros of numbers in macros, against the chapter's words: what Define says of bodies that call them with numbers and with others; with short numbers and with long ones, with few parameters and with more.
func TestB3CoursesAgainstTheWords(t *testing.T) {
	short := []string{"0", "1", "2", "3", "0.5", "0.3", "(- 2)", "(/ 1 3)", "7", "(- 1)"}
	long := append([]string{power(bitsOfMost - 2), power(bitsOfMost/2 - 1), "(- " + power(bitsOfMost-3) + ")", "(/ 1 " + power(bitsOfMost/2-1) + ")", "(/ 3 " + power(bitsOfMost-1) + ")"}, short...)
	seen := map[string]int{}
	for seed := range 90 {
		l := &lines{Rand: rand.New(rand.NewSource(int64(seed))), names: []string{"a", "b", "c", "d", "e"}[:1+seed%5], constants: short}
		if seed%6 == 0 {
			l.constants = long
		}
		w := newWalk(t, l.Rand, 1000)
		w.seen = seen
		for _, p := range params("xR", "yR", "pB") {
			w.declare(p.Name, p.Sort)
		}
		for l.below < 6 {
			w.define("f"+fmt.Sprint(l.below), params("aR", "bR", "cR", "dR", "eR")[:len(l.names)], api.SortReal, node(l.body(3)))
			if w.m.things[len(w.m.things)-1].name != "f"+fmt.Sprint(l.below) {
				continue // it was refused
			}
			l.below++
		}
		outside := &lines{Rand: l.Rand, names: slices.Repeat([]string{"2"}, len(l.names)), constants: l.constants, below: 6}
		if seed%4 == 1 {
			outside.names[0] = "x"
		}
		for range 8 {
			w.probe(outside.some("f"+fmt.Sprint(3+l.Intn(3)), len(l.names), 2))
		}
	}
	for _, want := range []string{"a number 0", "a body 0", "a body 3", "Define 0", "Define 3", "Define 145", "Define 144"} {
		if seen[want] < 15 {
			t.Errorf("%s was drawn %d times: %v", want, seen[want], seen)
		}
	}
}
