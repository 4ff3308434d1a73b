package terms

import "fulcrum/api"

// macro is a body as steps, in the order in which its parts are looked at, so that what it says is found without reading it again.
type macro struct {
	place  int   // where it stands among what is there
	params []int // their sorts
	steps  []step
	says   int     // the value that the body has: values are the parameters, and behind them one for each step
	opaque outcome // what it says where no parameter is a number
	course *course // what it says where some are; nil: that is not known
}

// step is one part of a body: what a word or a macro says of values ahead of it, a leaf, or a term that was there when the macro was defined.
type step struct {
	word  word
	macro *macro
	kids  []int // places of values
	leaf  leaf
	term  int
}

// leaf is a number, or a truth (by its kind alone).
type leaf struct {
	kind   int
	number api.Rat
}

// world is where macros are carried out. It remembers what they said of the same values, so that macros that call macros again and again are carried out as often as they say something new.
type world interface {
	leaf(l leaf) (int, api.Errno)
	constant(term int) int
	join(w word, kids []int) (int, api.Errno)
	known(m *macro, args []int) (int, bool)
	keep(m *macro, args []int, v int)
}

// take is what a step that calls no macro says of its kids.
func (s step) take(w world, kids []int) (int, api.Errno) {
	switch {
	case s.word != noWord:
		return w.join(s.word, kids)
	case s.leaf.kind != api.TermNone:
		return w.leaf(s.leaf)
	}
	return w.constant(s.term), api.OK
}

// frame is a macro that is being carried out, with its values so far.
type frame struct {
	macro  *macro
	values []int
}

func begin(m *macro, args []int) frame {
	values := make([]int, len(args), len(args)+len(m.steps))
	copy(values, args)
	return frame{macro: m, values: values}
}

// next is the step whose value comes next, if one is left.
func (f *frame) next() (step, bool) {
	at := len(f.values) - len(f.macro.params)
	if at == len(f.macro.steps) {
		return step{}, false
	}
	return f.macro.steps[at], true
}

func (f *frame) args() []int {
	return f.values[:len(f.macro.params)]
}

// carryOut is what a macro says of args. Macros in macros stand on a stack of their own, as there may be more of them in one another than calls can be.
func carryOut(w world, m *macro, args []int) (int, api.Errno) {
	v, ok := w.known(m, args)
	if ok {
		return v, api.OK
	}
	stack := []frame{begin(m, args)}
	for {
		top := &stack[len(stack)-1]
		deeper, e := top.goOn(w)
		if e != api.OK {
			return 0, e
		}
		if deeper.macro != nil {
			stack = append(stack, deeper)
			continue
		}
		v = top.values[top.macro.says]
		w.keep(top.macro, top.args(), v)
		stack = stack[:len(stack)-1]
		if len(stack) == 0 {
			return v, api.OK
		}
		caller := &stack[len(stack)-1]
		caller.values = append(caller.values, v)
	}
}

// goOn takes a macro's steps up to its end, or to a macro that must be carried out first: its frame.
func (f *frame) goOn(w world) (frame, api.Errno) {
	for {
		s, more := f.next()
		if !more {
			return frame{}, api.OK
		}
		kids := picked(f.values, s.kids)
		v, e := 0, api.OK
		if s.macro == nil {
			v, e = s.take(w, kids)
		} else if said, ok := w.known(s.macro, kids); ok {
			v = said
		} else {
			return begin(s.macro, kids), api.OK
		}
		if e != api.OK {
			return frame{}, e
		}
		f.values = append(f.values, v)
	}
}

func picked(values, places []int) []int {
	out := make([]int, len(places))
	for i, at := range places {
		out[i] = values[at]
	}
	return out
}

// call is a macro and what its parameters are.
type call struct {
	macro int
	args  string
}

// memory is what macros said.
type memory struct {
	said map[call]int
}

func (m *memory) known(of *macro, args []int) (int, bool) {
	v, ok := m.said[call{of.place, packed(args)}]
	return v, ok
}

func (m *memory) keep(of *macro, args []int, v int) {
	if m.said == nil {
		m.said = map[call]int{}
	}
	m.said[call{of.place, packed(args)}] = v
}

// filling is a bank into which something is read.
type filling struct {
	*Bank
	memory
}

func (f *filling) call(m *macro, args []int) (int, api.Errno) {
	return carryOut(f, m, args)
}
