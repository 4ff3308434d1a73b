package terms_test

import (
	"fmt"
	"math/big"
	"slices"
	"strconv"
	"strings"
	"testing"

	"fulcrum/api"
	"fulcrum/terms"
	"fulcrum/tokens"
)

// model is a bank by the chapter's words, without care for time: terms are looked for one by one, a macro's body is read anew at each call, and Define reads it in a copy that has no bound.
type model struct {
	filler int // numbers from a million on, which stand ahead of all terms and in none of them
	most   int
	isBody bool
	terms  []entry
	things []item
}

// entry is a term; number is nil where it does not count.
type entry struct {
	kind, sort int
	name       string
	number     *big.Rat
	kids       []int
}

// item is what has a name.
type item struct {
	name     string
	sort     int
	constant bool
	isTerm   bool // it was named; the term that it says, or the constant's
	term     int
	params   []api.Param
	body     api.Node
}

// local is a name that is bound.
type local struct {
	name string
	term int
}

// wrong is an error, and the part that it is told of.
type wrong struct {
	err  api.Errno
	part api.Node
}

func newModel() *model { return &model{most: api.MaxTerms} }

func (m *model) len() int { return m.filler + len(m.terms) }

// at is a term; one of the filler is a number.
func (m *model) at(n int) entry {
	if n < m.filler {
		return entry{kind: api.TermNumber, sort: api.SortReal, number: big.NewRat(int64(fillerFrom+n), 1)}
	}
	return m.terms[n-m.filler]
}

const fillerFrom = 1000000

func (e entry) same(f entry) bool {
	if e.kind != f.kind || e.sort != f.sort || e.name != f.name || !slices.Equal(e.kids, f.kids) || (e.number == nil) != (f.number == nil) {
		return false
	}
	return e.number == nil || e.number.Cmp(f.number) == 0
}

func (m *model) put(e entry) (int, api.Errno) {
	for i, f := range m.terms {
		if e.same(f) {
			return m.filler + i, api.OK
		}
	}
	if m.len() >= m.most {
		return 0, api.ErrFull
	}
	m.terms = append(m.terms, e)
	return m.len() - 1, api.OK
}

// kidSorts are the sorts that a term of that kind asks for; ok is false, if it may not have so many kids. Kids that are SortNone are of one sort.
func kidSorts(kind, kids int) (of []int, ok bool) {
	each := func(sort, least, most int) ([]int, bool) {
		return slices.Repeat([]int{sort}, kids), least <= kids && kids <= most
	}
	switch kind {
	case api.TermTrue, api.TermFalse, api.TermName, api.TermNumber:
		return each(0, 0, 0)
	case api.TermNot:
		return each(api.SortBool, 1, 1)
	case api.TermAnd, api.TermOr:
		return each(api.SortBool, 2, kids)
	case api.TermXor, api.TermImplies:
		return each(api.SortBool, 2, 2)
	case api.TermIte:
		return []int{api.SortBool, api.SortNone, api.SortNone}, kids == 3
	case api.TermEqual:
		return each(api.SortNone, 2, 2)
	case api.TermDistinct:
		return each(api.SortNone, 2, kids)
	case api.TermLess, api.TermAtMost:
		return each(api.SortReal, 2, 2)
	case api.TermAdd:
		return each(api.SortReal, 2, kids)
	}
	return each(api.SortReal, 1, 1) // TermScale
}

func (m *model) sortsAre(kids, want []int) bool {
	free := 0
	for i, kid := range kids {
		sort := m.at(kid).sort
		if want[i] == api.SortNone && free == 0 {
			free = sort
		}
		if want[i] == api.SortNone && sort != free || want[i] != api.SortNone && sort != want[i] {
			return false
		}
	}
	return true
}

func (m *model) check(t api.Term) api.Errno {
	if t.Kind < api.TermTrue || t.Kind > api.TermScale {
		return api.ErrSyntax
	}
	want, ok := kidSorts(t.Kind, len(t.Kids))
	if !ok {
		return api.ErrArity
	}
	for _, kid := range t.Kids {
		if kid < 0 || kid >= m.len() {
			return api.ErrTerm
		}
	}
	if !m.sortsAre(t.Kids, want) {
		return api.ErrSort
	}
	return api.OK
}

// entryOf is what counts of a term that check takes.
func (m *model) entryOf(t api.Term) entry {
	e := entry{kind: t.Kind, sort: api.SortBool, kids: slices.Clone(t.Kids)}
	switch t.Kind {
	case api.TermNumber, api.TermScale:
		e.number = bigOf(t.Number)
		e.sort = api.SortReal
	case api.TermAdd:
		e.sort = api.SortReal
	case api.TermIte:
		e.sort = m.at(t.Kids[2]).sort
	case api.TermName:
		e.name, e.sort = t.Name, t.Sort
	}
	return e
}

func (m *model) add(t api.Term) (int, api.Errno) {
	if e := m.check(t); e != api.OK {
		return 0, e
	}
	if t.Kind == api.TermName {
		for _, i := range m.things {
			if i.constant && i.name == t.Name {
				return m.put(entry{kind: api.TermName, name: i.name, sort: i.sort})
			}
		}
		return 0, api.ErrUnknown
	}
	return m.put(m.entryOf(t))
}

var ownWords = strings.Fields("true false not and or xor => ite = distinct < <= > >= + - * / ! _ as BINARY DECIMAL exists forall HEXADECIMAL let match NUMERAL par STRING")

func (m *model) mayGive(name string) api.Errno {
	if _, e := tokens.Symbol(name); e != api.OK || name == "" {
		return api.ErrPlain
	}
	if slices.Contains(ownWords, name) || m.find(name) != nil {
		return api.ErrDeclared
	}
	return api.OK
}

func (m *model) find(name string) *item {
	for i := range m.things {
		if m.things[i].name == name {
			return &m.things[i]
		}
	}
	return nil
}

func isSort(sort int) bool { return sort == api.SortBool || sort == api.SortReal }

func (m *model) declare(name string, sort int) (int, api.Errno) {
	if !isSort(sort) {
		return 0, api.ErrSort
	}
	if e := m.mayGive(name); e != api.OK {
		return 0, e
	}
	n, e := m.put(entry{kind: api.TermName, name: name, sort: sort})
	if e == api.OK {
		m.things = append(m.things, item{name: name, sort: sort, constant: true, isTerm: true, term: n})
	}
	return n, e
}

func (m *model) forget(names int) api.Errno {
	if names < 0 || names > len(m.things) {
		return api.ErrArg
	}
	m.things = m.things[:names:names]
	return api.OK
}

func (m *model) declared() []api.Param {
	var out []api.Param
	for _, i := range m.things {
		if i.constant {
			out = append(out, api.Param{Name: i.name, Sort: i.sort})
		}
	}
	return out
}

func (m *model) stand(n int) (int, api.Errno) {
	if n < 0 || n >= m.len() {
		return 0, api.ErrTerm
	}
	return m.put(entry{kind: api.TermName, name: "\x00" + strconv.Itoa(n), sort: m.at(n).sort})
}

func (m *model) define(name string, l []api.Param, sort int, body api.Node) (api.Errno, api.Node) {
	sorts := []int{sort}
	for _, p := range l {
		sorts = append(sorts, p.Sort)
	}
	if slices.ContainsFunc(sorts, func(s int) bool { return !isSort(s) }) {
		return api.ErrSort, api.Node{}
	}
	if e := m.mayGive(name); e != api.OK {
		return e, api.Node{}
	}
	copied := &model{filler: m.filler, most: 1 << 40, isBody: true, terms: slices.Clone(m.terms), things: slices.Clone(m.things)}
	var bound []local
	for i, p := range l {
		if e := (&model{}).mayGive(p.Name); e != api.OK {
			return e, api.Node{}
		}
		if slices.ContainsFunc(l[:i], func(q api.Param) bool { return q.Name == p.Name }) {
			return api.ErrDeclared, api.Node{}
		}
		n, _ := copied.put(entry{kind: api.TermName, name: fmt.Sprint("parameter ", i, "\x00"), sort: p.Sort})
		bound = append(bound, local{p.Name, n})
	}
	n, w := copied.says(body, bound)
	if w.err != api.OK {
		return w.err, w.part
	}
	if copied.at(n).sort != sort {
		return api.ErrSort, body
	}
	m.things = append(m.things, item{name: name, sort: sort, params: l, body: body})
	return api.OK, api.Node{}
}

func (m *model) read(n api.Node) (int, wrong) {
	terms, things := len(m.terms), len(m.things)
	v, w := m.says(n, nil)
	if w.err != api.OK {
		m.terms, m.things = m.terms[:terms:terms], m.things[:things:things]
	}
	return v, w
}

func bigOf(r api.Rat) *big.Rat {
	whole := func(l api.Nat) *big.Int {
		out := new(big.Int)
		for i := len(l) - 1; i >= 0; i-- {
			out.Add(out.Lsh(out, 32), big.NewInt(int64(l[i])))
		}
		return out
	}
	num, den := whole(r.Num.Abs), whole(r.Den)
	if den.Sign() == 0 {
		return new(big.Rat)
	}
	if r.Num.Neg {
		num.Neg(num)
	}
	return new(big.Rat).SetFrac(num, den)
}

// ratOf is a number as answers have it.
func ratOf(r *big.Rat) api.Rat {
	if r == nil {
		return api.Rat{}
	}
	limbs := func(x *big.Int) api.Nat {
		var out api.Nat
		for y := new(big.Int).Abs(x); y.Sign() > 0; y.Rsh(y, 32) {
			out = append(out, uint32(new(big.Int).And(y, big.NewInt(1<<32-1)).Uint64()))
		}
		return out
	}
	return api.Rat{Num: api.Int{Neg: r.Sign() < 0, Abs: limbs(r.Num())}, Den: limbs(r.Denom())}
}

func (m *model) get(n int) api.Term {
	e := m.at(n)
	return api.Term{Kind: e.kind, Sort: e.sort, Name: e.name, Number: ratOf(e.number), Kids: e.kids}
}

func script(r *big.Rat) string {
	switch {
	case r.Sign() < 0:
		return "(- " + script(new(big.Rat).Neg(r)) + ")"
	case r.IsInt():
		return r.Num().String() + ".0"
	}
	return "(/ " + r.Num().String() + ".0 " + r.Denom().String() + ".0)"
}

var heads = map[int]string{
	api.TermNot: "not", api.TermAnd: "and", api.TermOr: "or", api.TermXor: "xor", api.TermImplies: "=>", api.TermIte: "ite", api.TermEqual: "=", api.TermDistinct: "distinct",
	api.TermLess: "<", api.TermAtMost: "<=", api.TermAdd: "+", api.TermScale: "*",
}

// print is a term's text, however long it is.
func (m *model) print(n int) string {
	e := m.at(n)
	switch e.kind {
	case api.TermTrue:
		return "true"
	case api.TermFalse:
		return "false"
	case api.TermNumber:
		return script(e.number)
	case api.TermName:
		if of, ok := strings.CutPrefix(e.name, "\x00"); ok {
			kid, _ := strconv.Atoi(of)
			return m.print(kid)
		}
		s, _ := tokens.Symbol(e.name)
		return s
	}
	out := "(" + heads[e.kind]
	if e.kind == api.TermScale {
		out += " " + script(e.number)
	}
	for _, kid := range e.kids {
		out += " " + m.print(kid)
	}
	return out + ")"
}

// modelOf is the model of a bank in which constants alone are there.
func modelOf(t *testing.T, b *terms.Bank) *model {
	t.Helper()
	m := newModel()
	for n := range b.Len() {
		m.terms = append(m.terms, m.entryOf(get(t, b, n)))
	}
	for _, p := range b.Declared() {
		n, e := b.Add(api.Term{Kind: api.TermName, Name: p.Name})
		wantErr(t, p.Name, e, api.OK)
		m.things = append(m.things, item{name: p.Name, sort: p.Sort, constant: true, isTerm: true, term: n})
	}
	return m
}
