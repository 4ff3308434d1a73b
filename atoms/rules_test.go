package atoms_test

import (
	"fmt"
	"math"
	"math/rand"
	"strings"
	"sync"
	"testing"
	"unsafe"

	"fulcrum/api"
	"fulcrum/atoms"
)

// What lists and numbers share is tested for all functions on plain data in package rules; here is what hangs on the kind of table, and the texts.

// A panic would end the test, and so would a call that does not end: any arguments; beside an error there is nothing.
func TestR1AnyArguments(t *testing.T) {
	r := rand.New(rand.NewSource(15))
	ints := []int{0, 1, -1, 2, -2, 3, 7, -7, 8, 99, 1 << 18, -1 << 18, 1 << 40, math.MaxInt, math.MinInt}
	names := []string{"", "p", "q", "\x00", "\xff", strings.Repeat("z", 5000)}
	for range 30000 {
		l := someTable(r)
		for range r.Intn(3) {
			l[r.Intn(len(l))] = oddAtom(r)
		}
		if r.Intn(9) == 0 {
			l = l[r.Intn(len(l)):]
		}
		name, lit, other := names[r.Intn(len(names))], ints[r.Intn(len(ints))], ints[r.Intn(len(ints))]
		binds := []api.Binding{{Name: names[r.Intn(len(names))], Value: api.Value{Sort: ints[r.Intn(len(ints))], Bool: true, Real: someRat(r)}}}
		anyArguments(t, l, name, lit, other, someAffine(r), someVals(r), binds)
	}
}

func anyArguments(t *testing.T, l []api.Atom, name string, lit, other int, f api.Affine, vals []api.Rat, binds []api.Binding) {
	t.Helper()
	bad := atoms.Check(l)
	wantTruth(t, "Check", bad == api.OK, mayBe(l))
	m, n, e := atoms.Name(l, name)
	wantBeside(t, "Name", e, bad, len(m) == 0 && n == 0)
	m, n, e = atoms.Below(l, f, name == "")
	wantBeside(t, "Below", e, bad, len(m) == 0 && n == 0)
	g, strict, e := atoms.Says(l, lit)
	wantBeside(t, "Says", e, bad, toldAffine(g) == toldAffine(api.Affine{}) && !strict)
	is, e := atoms.Holds(l, lit, vals, binds)
	wantBeside(t, "Holds", e, bad, !is)
	is, e = atoms.Implies(l, lit, other)
	wantBeside(t, "Implies", e, bad, !is)
	text, e := atoms.Text(l, lit)
	wantBeside(t, "Text", e, bad, text == "")
}

// wantBeside: an error of the table comes first, and beside an error there is nothing.
func wantBeside(t *testing.T, what string, e, bad api.Errno, isNothing bool) {
	t.Helper()
	if bad != api.OK && e != bad || e != api.OK && !isNothing {
		t.Fatalf("%s: the error %d of a table with %d, nothing beside it: %v", what, e, bad, isNothing)
	}
}

// Where several errors apply, the table's is told first; then the literal's, then the value's.
func TestR2OrderOfErrors(t *testing.T) {
	bad := append(plain(), trueOne())
	wantNoName(t, "and empty", bad, "", api.ErrAtom)
	wantNotHeld(t, "and no value", bad, 2, nil, nil, api.ErrAtom)
	wantNotHeld(t, "no literal, and no value", plain(), 8, nil, nil, api.ErrAtom)
	wantNotHeld(t, "no value", plain(), 2, nil, nil, api.ErrValue)
	wantNoName(t, "empty", plain(), "", api.ErrArg)
	wantNotImplied(t, "though b is 1", plain(), 0, 1)
	wantNotImplied(t, "though a is -1", plain(), -1, 8)
	wantNotImplied(t, "though both are the same", plain(), -8, -8)
}

// spoil writes over all that there is in a table, and behind its lists' ends.
func spoil(l []api.Atom) {
	limbs := func(n api.Nat) {
		n = n[:cap(n)]
		for i := range n {
			n[i] = 77
		}
	}
	l = l[:cap(l)]
	for i := range l {
		limbs(l[i].Bound.Num.Abs)
		limbs(l[i].Bound.Den)
		f := l[i].Form[:cap(l[i].Form)]
		for k := range f {
			limbs(f[k].Coef.Num.Abs)
			limbs(f[k].Coef.Den)
			f[k] = api.Mono{Var: -77}
		}
		l[i] = api.Atom{Name: "spoilt", Strict: true}
	}
}

// grown is what Name and Below tell of a table: with what is there, with what is new, and with what hangs on no values.
func grown(t *testing.T, l []api.Atom) [][]api.Atom {
	t.Helper()
	var out [][]api.Atom
	for _, name := range []string{"p", "new"} {
		m, _, e := atoms.Name(l, name)
		wantErr(t, "Name", e, api.OK)
		out = append(out, m)
	}
	for _, f := range []api.Affine{affine("1"), affine("-3/2", "1", 0), affine("3", "-2", 0), affine("5", "-1/2", 0, "1/3", 9), affine("5", "1", 9)} {
		for _, strict := range []bool{false, true} {
			m, _ := below(t, l, f, strict)
			out = append(out, m)
		}
	}
	return out
}

// A table that is told is its owner's: what is done to it, and to the room behind its end, changes neither the table that was handed in nor another answer; and what is done to that changes no answer.
func TestR3TablesAreNewMemory(t *testing.T) {
	tables := [][]api.Atom{table(), plain(), table(unlike()...)}
	for i := range tables {
		l := tables[i]
		was := told(l)
		first, second := grown(t, l), grown(t, l)
		for k := range first {
			said := told(second[k])
			spoil(first[k])
			wantText(t, "another answer", told(second[k]), said)
			wantText(t, "what was handed in", told(l), was)
		}
		var said []string
		for _, m := range second {
			said = append(said, told(m))
		}
		spoil(l)
		for k, m := range second {
			wantText(t, "an answer", told(m), said[k])
		}
	}
}

// What is handed in beside the table is not kept either.
func TestR3FormsAreNotKept(t *testing.T) {
	for _, strict := range []bool{false, true} {
		f := affine("5", "1", 3, "-2", 9) // Prime's shape as it stands there
		l, _ := below(t, plain(), f, strict)
		was := told(l)
		spoil([]api.Atom{{Form: f.Form, Bound: f.Const}})
		wantText(t, "the table", told(l), was)
	}
}

// The room behind the end of what is handed in is neither looked at nor changed.
func TestR3RoomBehind(t *testing.T) {
	long := append(plain(), named("behind"), most("99", "1", 99))
	was := told(long)
	l := long[:len(long)-2]
	wantName(t, l, "behind", 8, append(plain(), named("behind")))
	wantName(t, l, "other", 8, append(plain(), named("other")))
	wantBelow(t, l, affine("-99", "1", 99), false, 8, append(plain(), most("99", "1", 99)))
	wantBelow(t, l, affine("1", "-1", 5), false, -8, append(plain(), under("1", "1", 5)))
	wantNoText(t, "behind the end", l, 8)
	wantText(t, "what was handed in", told(long), was)
}

// Names and texts that are told are no pieces of one another, nor of what was handed in.
func TestR3TextsAreNewMemory(t *testing.T) {
	seen := map[*byte]bool{}
	fresh := func(text string) {
		t.Helper()
		if at := unsafe.StringData(text); text != "" && seen[at] {
			t.Fatalf("%q shares its memory", text)
		} else {
			seen[at] = true
		}
	}
	name := strings.Repeat("new", 3)
	fresh(name)
	l := table(named(strings.Repeat("p", 9)), most("1", "1", 0), named(strings.Repeat("q", 9)))
	for _, a := range l {
		fresh(a.Name)
	}
	for _, given := range []string{name, l[1].Name} {
		m, _, e := atoms.Name(l, given)
		wantErr(t, "Name", e, api.OK)
		for _, a := range m {
			fresh(a.Name)
		}
	}
	m, _ := below(t, l, affine("3", "1", 0), true)
	for _, a := range m {
		fresh(a.Name)
	}
	for range 2 {
		text, e := atoms.Text(l, 2)
		wantErr(t, "Text", e, api.OK)
		fresh(text)
	}
}

// The calls know nothing of one another: in turn and beside one another they tell what they tell alone.
func TestR4TheSameAgain(t *testing.T) {
	r := rand.New(rand.NewSource(16))
	var tables [][]api.Atom
	for range 20 {
		tables = append(tables, someTable(r))
	}
	tell := func() string {
		var out strings.Builder
		for _, l := range tables {
			m, n, e := atoms.Name(l, "p")
			fmt.Fprint(&out, told(m), n, e)
			m, n, e = atoms.Below(l, affine("1", "-2", 0, "1/3", 1), true)
			fmt.Fprint(&out, told(m), n, e)
			for _, lit := range literals(l) {
				is, e := atoms.Implies(l, lit, 2)
				fmt.Fprint(&out, toldLiteral(l, lit), is, e)
			}
		}
		return out.String()
	}
	first := tell()
	wantText(t, "again", tell(), first)
	var wait sync.WaitGroup
	for range 4 {
		wait.Go(func() {
			if tell() != first {
				t.Error("beside others something else is told")
			}
		})
	}
	wait.Wait()
}
