package terms

import (
	"strings"

	"fulcrum/api"
	"fulcrum/tokens"
)

// thing is what a name stands for: a macro with its steps; or a term, which is that of a constant (declared), or was named where it was read.
type thing struct {
	name     string
	declared bool
	term     int
	macro    *macro
}

// Declare declares a constant: its term.
func (b *Bank) Declare(name string, sort int) (int, api.Errno) {
	if !b.isMade() {
		return 0, api.ErrArg
	}
	if e := b.mayDeclare(name, sort); e != api.OK {
		return 0, e
	}
	n, e := b.put(b.normal(api.Term{Kind: api.TermName, Name: name, Sort: sort}))
	if e == api.OK {
		b.give(name, thing{declared: true, term: n})
	}
	return n, e
}

func (b *Bank) mayDeclare(name string, sort int) api.Errno {
	if !isSort(sort) {
		return api.ErrSort
	}
	return b.mayGive(name)
}

// mayGive is why a name may not be given to something.
func (b *Bank) mayGive(name string) api.Errno {
	if e := mayBind(name); e != api.OK {
		return e
	}
	if _, ok := b.find(name); ok {
		return api.ErrDeclared
	}
	return api.OK
}

// mayBind is why nothing can have a name, whatever is there.
func mayBind(name string) api.Errno {
	switch {
	case !canBeSaid(name):
		return api.ErrPlain
	case isOwn(name):
		return api.ErrDeclared
	}
	return api.OK
}

func canBeSaid(name string) bool {
	_, e := tokens.Symbol(name)
	return e == api.OK && name != ""
}

// isOwn tells whether a name is one of the language's own words.
func isOwn(name string) bool {
	return name == wordTrue || name == wordFalse || wordOf(name) != noWord || tokens.Reserved(name)
}

// give puts what has a name behind what is there.
func (b *Bank) give(name string, t thing) {
	t.name = strings.Clone(name)
	b.named[t.name] = len(b.things)
	b.things = append(b.things, t)
}

func (b *Bank) find(name string) (thing, bool) {
	at, ok := b.named[name]
	if !ok {
		return thing{}, false
	}
	return b.things[at], true
}

// Declared is the constants that are declared, in their order.
func (b *Bank) Declared() []api.Param {
	var out []api.Param
	if !b.isMade() {
		return out
	}
	for _, t := range b.things {
		if t.declared {
			out = append(out, api.Param{Name: strings.Clone(t.name), Sort: b.sort(t.term)})
		}
	}
	return out
}

// Names is how many names are declared or defined.
func (b *Bank) Names() int {
	if !b.isMade() {
		return 0
	}
	return len(b.things)
}

// Forget leaves so many of the names, the first ones.
func (b *Bank) Forget(names int) api.Errno {
	if !b.isMade() || names < 0 || names > len(b.things) {
		return api.ErrArg
	}
	for _, t := range b.things[names:] {
		delete(b.named, t.name)
	}
	clear(b.things[names:])
	b.things = b.things[:names]
	return api.OK
}
