package terms

import (
	"slices"

	"fulcrum/api"
)

// The values of a sketch: something of Bool, something of Real that is no number, and behind them the numbers.
const (
	someBool = iota
	someReal
	firstNumber
)

// sketch is what a macro's body says as far as anything can be wrong with it. No terms are made, so however many there would be, there is room.
type sketch struct {
	memory
	bank    *Bank
	numbers []api.Rat
	places  map[number]int
}

func newSketch(b *Bank) *sketch {
	return &sketch{bank: b, places: map[number]int{}}
}

func (s *sketch) sort(v int) int {
	if v == someBool {
		return api.SortBool
	}
	return api.SortReal
}

func (s *sketch) number(v int) (api.Rat, bool) {
	if v < firstNumber {
		return api.Rat{}, false
	}
	return s.numbers[v-firstNumber], true
}

// some is the value of what has that sort and is no number.
func some(sort int) int {
	if sort == api.SortBool {
		return someBool
	}
	return someReal
}

// value is what an outcome is. (Of what is wrong it is anything.)
func (s *sketch) value(out outcome) int {
	if !out.isNumber {
		return some(out.sort)
	}
	k := numberOf(out.number)
	v, ok := s.places[k]
	if !ok {
		v = firstNumber + len(s.numbers)
		s.places[k] = v
		s.numbers = append(s.numbers, out.number)
	}
	return v
}

func (s *sketch) outcome(v int) outcome {
	r, ok := s.number(v)
	return outcome{sort: s.sort(v), isNumber: ok, number: r}
}

func (s *sketch) leaf(l leaf) (int, api.Errno) {
	return s.value(outcome{sort: shapes[l.kind].sort, isNumber: l.kind == api.TermNumber, number: l.number}), api.OK
}

func (s *sketch) constant(term int) int {
	r, ok := s.bank.number(term)
	return s.value(outcome{sort: s.bank.sort(term), isNumber: ok, number: r})
}

func (s *sketch) join(w word, kids []int) (int, api.Errno) {
	out, e := judge(s, w, kids)
	return s.value(out), e
}

// known is told at once where no parameter is a number, as all such values are alike; and by the macro's course.
func (s *sketch) known(m *macro, args []int) (int, bool) {
	if !slices.ContainsFunc(args, func(v int) bool { return v >= firstNumber }) {
		return s.value(m.opaque), true
	}
	if v, ok := s.memory.known(m, args); ok || m.course == nil {
		return v, ok
	}
	return s.foreseen(m, args)
}

// foreseen is what a macro says by its course, if no number on the way can be too long.
func (s *sketch) foreseen(m *macro, args []int) (int, bool) {
	lines := make([]*line, len(args))
	for i, v := range args {
		if r, ok := s.number(v); ok {
			lines[i] = &line{alone: r}
		}
	}
	said, way := m.course.of(lines)
	if !way.alone.isShort() {
		return 0, false
	}
	if said == nil {
		return some(m.opaque.sort), true
	}
	return s.value(outcome{sort: api.SortReal, isNumber: true, number: said.alone}), true
}

// recorder makes steps of what is read. Its values are the places of parameters and steps; each is a value of the sketch, too, by which it is judged.
type recorder struct {
	sketch *sketch
	values []int
	steps  []step
	trace  trace
}

func (r *recorder) sort(v int) int {
	return r.sketch.sort(r.values[v])
}

func (r *recorder) leaf(l leaf) (int, api.Errno) {
	v, e := r.sketch.leaf(l)
	return r.record(step{leaf: l}, v, e)
}

func (r *recorder) constant(term int) int {
	v, _ := r.record(step{term: term}, r.sketch.constant(term), api.OK)
	return v
}

func (r *recorder) join(w word, kids []int) (int, api.Errno) {
	v, e := r.sketch.join(w, picked(r.values, kids))
	return r.record(step{word: w, kids: kids}, v, e)
}

func (r *recorder) call(m *macro, args []int) (int, api.Errno) {
	v, e := carryOut(r.sketch, m, picked(r.values, args))
	return r.record(step{macro: m, kids: args}, v, e)
}

// record is the place of the value of a step with which nothing is wrong.
func (r *recorder) record(s step, v int, e api.Errno) (int, api.Errno) {
	if e != api.OK {
		return 0, e
	}
	r.steps = append(r.steps, s)
	r.values = append(r.values, v)
	r.trace.follow(s, r.sketch.outcome(v))
	return len(r.values) - 1, api.OK
}
