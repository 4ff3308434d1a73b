package implied_test

import (
	"testing"

	"fulcrum/api"
	"fulcrum/implied"
)

// The four examples of the chapter, as they stand there.

func exampleRow() api.Row { return row(3, "2", 0, "-1", 1) }

func exampleLimits() []api.Limit {
	return []api.Limit{{Lower: at("1", "0", 10), Upper: at("2", "0", 11)}, {Upper: at("5", "0", 12)}, {}, {}}
}

func TestExample1(t *testing.T) {
	wantBounds(t, "Row", implied.Row(exampleRow(), exampleLimits()), atLeast(3, "-3", "0", by(10, "2", 12, "1")))
}

func TestExample2(t *testing.T) {
	limits := exampleLimits()
	limits[3].Lower = at("0", "0", 13)
	four, minus := atMost(1, "4", "0", by(11, "2", 13, "1")), atLeast(3, "-3", "0", by(10, "2", 12, "1"))
	wantBounds(t, "Row", implied.Row(exampleRow(), limits), four, minus)
	wantBounds(t, "Tighter", implied.Tighter(exampleRow(), limits), four)
}

func TestExample3(t *testing.T) {
	for _, limits := range [][]api.Limit{nil, exampleLimits()} {
		wantBounds(t, "0 = 0", implied.Row(row(1, "1", 1), limits))
		wantBounds(t, "2 v1 = 0", implied.Row(row(1, "3", 1), limits), atLeast(1, "0", "0", nil), atMost(1, "0", "0", nil))
	}
}

// most is the atom that a form is at most a bound, below that it is below one, named a constant of Bool.
func most(bound string, l ...any) api.Atom {
	return api.Atom{Form: form(l...), Bound: num(bound)}
}

func below(bound string, l ...any) api.Atom {
	return api.Atom{Form: form(l...), Bound: num(bound), Strict: true}
}

func named(name string) api.Atom { return api.Atom{Name: name} }

func TestExample4(t *testing.T) {
	const x, y = 0, 1
	for _, c := range []struct {
		a, b api.Atom
		want []api.Clause
	}{
		{most("2", "1", x), most("3", "1", x), []api.Clause{{-1, 2}}},
		{most("2", "1", x), below("-4", "-2", x), []api.Clause{{1, 2}, {-1, -2}}},
		{below("2", "1", x), most("-2", "-1", x), []api.Clause{{1, 2}, {-1, -2}}},
		{most("2", "1", x), most("-2", "-1", x), []api.Clause{{1, 2}}},
		{most("2", "1", x), most("2", "1", y), nil},
		{most("1"), named("p"), []api.Clause{{1, 2}, {1, -2}}},
		{named("p"), named("p"), []api.Clause{{1, -2}, {-1, 2}}},
	} {
		wantClauses(t, "Relate", implied.Relate(c.a, c.b), c.want...)
	}
}
