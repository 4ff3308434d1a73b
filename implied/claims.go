package implied

import (
	"slices"

	"fulcrum/api"
	"fulcrum/linear"
	"fulcrum/ratio"
)

// line is what atoms speak of, a number that hangs on the values. Forms that are multiples of one another have one shape, its text; a constant of Bool is a line too, on which it is true up to 0 and false above. The line without both is that of the form without variables.
type line struct{ name, shape string }

// isGround tells whether a line's number is 0, whatever the values are. Of any two other lines the numbers can be any.
func (l line) isGround() bool { return l == line{} }

// claim is what a literal says: its line's number is at most a bound (upper), or at least; strict: not the bound itself.
type claim struct {
	of            line
	upper, strict bool
	at            api.Rat
}

func claimOf(a api.Atom) claim {
	if a.Name != "" {
		return claim{of: line{name: a.Name}, upper: true}
	}
	shape, times := linear.Prime(a.Form)
	at, _ := ratio.Div(a.Bound, times) // no form is its shape 0 times
	out := claim{upper: ratio.Sign(times) > 0, strict: a.Strict, at: at}
	if len(shape) > 0 {
		out.of.shape = linear.Text(shape)
	}
	return out
}

func (c claim) opposite() claim {
	return claim{of: c.of, upper: !c.upper, strict: !c.strict, at: c.at}
}

// misses tells whether no number of one line is as both claims say.
func (c claim) misses(d claim) bool {
	if c.upper == d.upper {
		return false
	}
	order := ratio.Cmp(c.at, d.at)
	if c.upper {
		order = -order
	}
	return order > 0 || order == 0 && (c.strict || d.strict)
}

// isNever tells whether a claim holds under no values at all.
func (c claim) isNever() bool {
	return c.of.isGround() && c.misses(claim{upper: !c.upper})
}

// clashes tells whether no values make both claims true.
func (c claim) clashes(d claim) bool {
	return c.isNever() || d.isNever() || c.of == d.of && c.misses(d)
}

// literal is an atom's number or its opposite, with what is so where it is false.
type literal struct {
	number int
	denied claim
}

func literals(number int, c claim) [2]literal {
	return [2]literal{{number, c.opposite()}, {-number, c}}
}

// clauses is the clauses of two atoms, one literal of each, that no values make false.
func clauses(a, b [2]literal) []api.Clause {
	var out []api.Clause
	for _, x := range a {
		for _, y := range b {
			if x.denied.clashes(y.denied) {
				out = append(out, api.Clause{x.number, y.number})
			}
		}
	}
	return out
}

// Relate is the clauses that hold of two atoms, whatever the values: 1 and 2 stand for them.
func Relate(a, b api.Atom) []api.Clause {
	return clauses(literals(1, claimOf(a)), literals(2, claimOf(b)))
}

// Lemmas is the clauses that hold of any two atoms of a table.
func Lemmas(l []api.Atom) []api.Clause {
	var all []claim
	places := map[line][]int{} // of each line's atoms, rising
	for i, a := range l {
		all = append(all, claimOf(a))
		places[all[i].of] = append(places[all[i].of], i)
	}
	var out []api.Clause
	for i, c := range all {
		for _, k := range partners(c.of, i, len(l), places) {
			out = append(out, clauses(literals(i+1, c), literals(k+1, all[k]))...)
		}
	}
	return out
}

// partners is the places behind i, of so many, whose atoms may have a clause with the one at i, rising: those of its line, and those that hang on no values. Of two other lines nothing follows, and most atoms of a long table are of other lines.
func partners(of line, i, length int, places map[line][]int) []int {
	var out []int
	if of.isGround() {
		for k := i + 1; k < length; k++ {
			out = append(out, k)
		}
		return out
	}
	out = append(out, behind(places[of], i)...)
	out = append(out, behind(places[line{}], i)...)
	slices.Sort(out)
	return out
}

// behind is those of rising places that are above i.
func behind(rising []int, i int) []int {
	first, _ := slices.BinarySearch(rising, i+1)
	return rising[first:]
}
