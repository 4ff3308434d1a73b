package clauses_test

import (
	"math/rand"
	"testing"

	"fulcrum/api"
	"fulcrum/atoms"
	"fulcrum/clauses"
	"fulcrum/meaning"
)

// eachValues hands on all values of the atoms from 1 on.
func eachValues(atoms int, do func(values []bool)) {
	for m := range 1 << atoms {
		values := make([]bool, atoms+1)
		for i := range atoms {
			values[i+1] = m>>i&1 == 1
		}
		do(values)
	}
}

// asserted is what an encoded term's clauses and its literal say together.
func asserted(x api.Encoded) []api.Clause {
	return append(append([]api.Clause{}, x.Clauses...), lits(x.Lit))
}

// Terms of Bool constants alone: all their values are gone through, and all those of the atoms.
func TestC5EquisatisfiableOverConstants(t *testing.T) {
	sat, unsat := 0, 0
	for _, text := range []string{
		"p", "(not p)", "true", "false", "(and p q)", "(and p (not q) (or q r))", "(and (= p q) (= q r) (= p (not r)))", "(and (or p q) (or p (not q)) (or (not p) q) (or (not p) (not q)))",
		"(and (ite p q r) (not (ite p q r)))", "(and (ite p q r) (= p (not q)) (not r))", "(and p (= p q) (= q (not p)))", "(and (= (= p q) r) (= p (= q r)) (or p q) r)", "(and (=> p q) (=> q r) p (not r))", "(and (xor p q) (xor q r) (xor p r))",
	} {
		b := bank(t)
		n := normal(t, b, text)
		x := encoded(t, b, atoms.New(), n)
		can := false
		eachValues(3, func(values []bool) {
			v := []api.Binding{}
			for i, name := range []string{"p", "q", "r"} {
				v = append(v, api.Binding{Name: name, Value: api.Value{Sort: api.SortBool, Bool: values[i+1]}})
			}
			is, e := meaning.Eval(b, n, v)
			wantErr(t, "Eval", e, api.OK)
			can = can || is.Bool
		})
		found := false
		eachValues(len(x.Atoms)-1, func(rest []bool) {
			values := append([]bool{false, true}, rest[1:]...) // the true atom is true
			if at, _ := clauses.Holds(asserted(x), values); at < 0 {
				found = true
			}
		})
		wantTruth(t, text+" can be true", found, can)
		if can {
			sat++
		} else {
			unsat++
		}
	}
	if min(sat, unsat) < 5 {
		t.Fatal("too few of a kind", sat, unsat)
	}
}

// Bindings that make a term true give values that make the clauses and the literal true, and others give none, whatever values the definitions have.
func TestC5BindingsAndValues(t *testing.T) {
	true0, false0 := 0, 0
	for seed := range int64(60) {
		w := draw(t, seed, 14)
		n := w.pool[len(w.pool)-1-w.Intn(3)]
		x := encoded(t, w.bank, w.someTable(), n)
		free := definitions(x)
		if len(free) > 10 {
			continue
		}
		for range 8 {
			v := w.someBinds()
			values := given(t, refOf(w.bank), x, valuedBy(v))
			found := false
			eachValues(len(free), func(rest []bool) {
				for i, atom := range free {
					values[atom] = rest[i+1]
				}
				at, _ := clauses.Holds(asserted(x), values)
				found = found || at < 0
			})
			is, e := meaning.Eval(w.bank, n, v)
			wantErr(t, "Eval", e, api.OK)
			wantTruth(t, "some values of the definitions do", found, is.Bool)
			if found {
				true0++
			} else {
				false0++
			}
		}
	}
	if min(true0, false0) < 50 {
		t.Fatal("too few of a kind", true0, false0)
	}
}

func TestC6ResolveFollows(t *testing.T) {
	r := rand.New(rand.NewSource(186))
	resolved := 0
	for range 20000 {
		a, b, atom := drawn(r, 4, 4), drawn(r, 4, 4), 1+r.Intn(4)
		c, e := clauses.Resolve(a, b, atom)
		if e != api.OK {
			continue
		}
		resolved++
		eachValues(4, func(values []bool) {
			if refTrue(a, values) && refTrue(b, values) && !refTrue(c, values) {
				t.Fatalf("%v does not follow from %v and %v", c, a, b)
			}
		})
	}
	if resolved < 500 {
		t.Fatal("so few", resolved)
	}
}

func TestC7ThereAndBack(t *testing.T) {
	r := rand.New(rand.NewSource(187))
	for range 3000 {
		atoms := []int{1, 7, 1000, 999999999}[r.Intn(4)]
		var l []api.Clause
		for range r.Intn(8) {
			l = append(l, drawn(r, atoms, 6))
		}
		text, e := clauses.Dimacs(atoms, l)
		wantErr(t, "Dimacs", e, api.OK)
		wantParse(t, text, atoms, l)
	}
	for _, atoms := range []int{0, 5, 999999999} {
		for _, l := range [][]api.Clause{nil, {nil}, {nil, nil, nil}} {
			text, e := clauses.Dimacs(atoms, l)
			wantErr(t, "Dimacs", e, api.OK)
			wantParse(t, text, atoms, l)
		}
	}
	text, e := clauses.Dimacs(1000000000, nil) // ten digits
	wantErr(t, "Dimacs", e, api.OK)
	wantNoParse(t, text, 1)
}

// A clause covers what it implies, if that has not both literals of an atom; and what it covers it implies.
func TestC7Covers(t *testing.T) {
	r := rand.New(rand.NewSource(188))
	implied := 0
	for range 6000 {
		a, b := drawn(r, 4, 3), drawn(r, 4, 5)
		implies := true
		eachValues(4, func(values []bool) { implies = implies && (!refTrue(a, values) || refTrue(b, values)) })
		_, both, e := clauses.Norm(b)
		wantErr(t, "Norm", e, api.OK)
		covers := clauses.Covers(a, b)
		if covers && !implies || implies && !both && !covers {
			t.Fatalf("%v implies %v: %v; Covers: %v", a, b, implies, covers)
		}
		if implies && !both {
			implied++
		}
	}
	if implied < 300 {
		t.Fatal("so few", implied)
	}
}
