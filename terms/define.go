package terms

import (
	"slices"

	"fulcrum/api"
)

// Define lets a name stand for a term with parameters; with an error the part that is wrong.
func (b *Bank) Define(name string, params []api.Param, sort int, body api.Node) (api.Errno, api.Node) {
	if !b.isMade() {
		return api.ErrArg, api.Node{}
	}
	if e := b.mayDefine(name, params, sort); e != api.OK {
		return e, api.Node{}
	}
	m, f := b.compile(params, sort, &body)
	if f.err != api.OK {
		return f.err, copied(*f.part)
	}
	b.give(name, thing{macro: m})
	return api.OK, api.Node{}
}

// mayDefine is what is wrong ahead of the body.
func (b *Bank) mayDefine(name string, params []api.Param, sort int) api.Errno {
	if !isSort(sort) || slices.ContainsFunc(params, func(p api.Param) bool { return !isSort(p.Sort) }) {
		return api.ErrSort
	}
	if e := b.mayGive(name); e != api.OK {
		return e
	}
	ahead := map[string]int{}
	for i, p := range params {
		if e := mayBind(p.Name); e != api.OK {
			return e
		}
		if _, twice := ahead[p.Name]; twice {
			return api.ErrDeclared
		}
		ahead[p.Name] = i
	}
	return api.OK
}

// compile is a macro of a body.
func (b *Bank) compile(params []api.Param, sort int, body *api.Node) (*macro, fault) {
	rec := &recorder{sketch: newSketch(b), trace: newTrace(params)}
	r := reader{bank: b, maker: rec, scope: newScope(), isBody: true}
	m := &macro{place: len(b.things)}
	for i, p := range params {
		m.params = append(m.params, p.Sort)
		rec.values = append(rec.values, some(p.Sort))
		r.scope.bind(p.Name, i)
	}
	v, f := r.read(body)
	if f.err != api.OK {
		return nil, f
	}
	if rec.sort(v) != sort {
		return nil, fault{api.ErrSort, body}
	}
	m.steps, m.says, m.opaque, m.course = rec.steps, v, rec.sketch.outcome(rec.values[v]), rec.trace.course(v)
	return m, fault{}
}
