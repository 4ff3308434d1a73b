package terms

import (
	"slices"

	"fulcrum/api"
	"fulcrum/ratio"
)

// Macros that call macros may reckon with more numbers than can be gone over one by one. A macro's numbers are lines over those of its parameters that are numbers, as what is not linear is refused: so Define finds what it says of numbers by its course, and carries it out only where a number on the way might be too long.

// A course is kept of a macro with few parameters, if it is soon found: with short numbers many lines may be gone over for it, with long ones few.
const (
	fewParams = 4
	mostWork  = 1 << 22
	leastSize = 16
)

// course is what a macro says of parameters that are numbers (nil: what is no number), and where its numbers on the way lie.
type course struct {
	says *line
	way  spread
}

// of is what is said of args, of which nil is one that is no number, and where the numbers on the way lie.
func (c *course) of(args []*line) (*line, spread) {
	from := nowhere()
	for _, arg := range args {
		if arg != nil {
			from = from.or(arg.spread())
		}
	}
	return c.says.of(args), c.way.of(from)
}

// trace finds a macro's course while its steps are recorded.
type trace struct {
	lines  []*line // of each value; nil where that is never a number
	way    spread
	work   int
	isLost bool // there is no course, or no use for one
}

// spend counts the work of finding what lies there: it grows like the square of the numbers' sizes.
func (t *trace) spend(s spread) {
	size := leastSize + s.size()
	t.work += size * size
	t.isLost = t.isLost || t.work > mostWork || s.isLong()
}

func newTrace(params []api.Param) trace {
	isReal := func(p api.Param) bool { return p.Sort == api.SortReal }
	t := trace{way: nowhere(), isLost: len(params) > fewParams || !slices.ContainsFunc(params, isReal)}
	if t.isLost {
		return t
	}
	for i, p := range params {
		var l *line
		if isReal(p) {
			l = &line{}
			l.times[i], l.needs[i] = ratio.Whole(1), true
		}
		t.lines = append(t.lines, l)
	}
	return t
}

// course is the macro's, if it is known.
func (t *trace) course(says int) *course {
	if t.isLost {
		return nil
	}
	return &course{says: t.lines[says], way: t.way}
}

// follow adds the value of a step that is out where no parameter is a number. A number that it is there it is everywhere; but where a macro says it, the numbers on the way may be others.
func (t *trace) follow(s step, out outcome) {
	if t.isLost {
		return
	}
	fixed := &line{alone: out.number}
	if out.isNumber && s.macro == nil {
		t.lines = append(t.lines, fixed)
		return
	}
	said, way := t.step(s, t.linesOf(s.kids))
	if out.isNumber {
		said = fixed
	}
	t.lines = append(t.lines, said)
	t.way = t.way.or(way)
	t.spend(t.way)
}

func (t *trace) linesOf(values []int) []*line {
	out := make([]*line, len(values))
	for i, at := range values {
		out[i] = t.lines[at]
	}
	return out
}

// step is what a step says of kids, and where its numbers on the way lie.
func (t *trace) step(s step, kids []*line) (*line, spread) {
	if s.macro != nil {
		return t.call(s.macro, kids)
	}
	if slices.Contains(kids, nil) {
		return nil, nowhere()
	}
	switch s.word {
	case wordPlus:
		return t.sum(kids, ratio.Whole(1))
	case wordMinus:
		return t.difference(kids)
	case wordTimes, wordOver:
		return t.multiple(s.word, kids)
	}
	return nil, nowhere()
}

// call says nothing new where the kids are no other numbers than they were when the body was read.
func (t *trace) call(m *macro, kids []*line) (*line, spread) {
	if !slices.ContainsFunc(kids, hangs) {
		return nil, nowhere()
	}
	if m.course == nil {
		t.isLost = true
		return nil, nowhere()
	}
	return m.course.of(kids)
}

// sum is the first of kids, and behind it the others so many times.
func (t *trace) sum(kids []*line, times api.Rat) (*line, spread) {
	out, way := *kids[0], kids[0].spread()
	for _, kid := range kids[1:] {
		if t.isLost {
			break
		}
		out, way = out.plus(kid.by(times)), way.plus(kid.spread())
		t.spend(way)
	}
	return &out, way
}

// difference of one kid is its opposite, which is never too long.
func (t *trace) difference(kids []*line) (*line, spread) {
	if len(kids) > 1 {
		return t.sum(kids, ratio.Whole(-1))
	}
	out := kids[0].by(ratio.Whole(-1))
	return &out, nowhere()
}

// multiple is the one kid that hangs on parameters, times or divided by the others.
func (t *trace) multiple(w word, kids []*line) (*line, spread) {
	out := *kids[slices.IndexFunc(kids, hangs)]
	way := out.spread()
	for _, kid := range kids {
		if hangs(kid) || t.isLost {
			continue
		}
		r := kid.alone
		if w == wordOver {
			r = divided(ratio.Whole(1), r)
		}
		out, way = out.by(r), way.stretched(r)
		t.spend(way)
	}
	return &out, way
}
