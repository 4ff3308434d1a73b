package sexpr

import (
	"fulcrum/api"
	"fulcrum/tokens"
)

// Reader reads S-expressions out of pieces.
type Reader struct {
	scan *tokens.Scanner // none, when nothing more is read
	// The first list is the text's own, of the S-expressions that are not told yet; the others are those that are open, each one within the one ahead of it.
	lists []api.Node
	depth int   // how many are open, also when they are not kept any more
	ended bool  // by an error or by End
	wrong fault // by which it ended
}

// NewReader makes one.
func NewReader() *Reader {
	return &Reader{scan: tokens.New(), lists: make([]api.Node, 1)}
}

// Feed takes a piece; the S-expressions that end in it.
func (r *Reader) Feed(piece string) (whole []api.Node, e api.Errno) {
	if !r.isReading() {
		return nil, r.refusal()
	}
	defer func() {
		wrong := caught(recover())
		whole, e = r.tell(), wrong.err
		if e != api.OK {
			r.stop(wrong)
		}
	}()
	r.take(r.scan.Feed(piece))
	return // by the deferred function, whether this is reached or given up
}

// Depth is how many lists are open.
func (r *Reader) Depth() int {
	if r == nil {
		return 0
	}
	return r.depth
}

// End ends the text.
func (r *Reader) End() (whole []api.Node, e api.Errno, place int) {
	if !r.isReading() {
		last := r.last()
		return nil, last.err, last.place
	}
	defer func() {
		wrong := caught(recover())
		whole, e, place = r.tell(), wrong.err, wrong.place
		r.stop(wrong)
	}()
	r.take(r.scan.End())
	if r.depth > 0 {
		panic(fault{api.ErrEnd, r.lists[1].Token.Begin})
	}
	return // as Feed does
}

func (r *Reader) isReading() bool {
	return r != nil && r.scan != nil
}

// last is what was wrong at the end. One that NewReader did not give had no beginning.
func (r *Reader) last() fault {
	if r == nil || !r.ended {
		return fault{err: api.ErrArg}
	}
	return r.wrong
}

// refusal is why no piece is taken any more.
func (r *Reader) refusal() api.Errno {
	if e := r.last().err; e != api.OK {
		return e
	}
	return api.ErrEnd
}

// take goes on by what a scanner tells, and gives up at the first thing that is wrong.
func (r *Reader) take(told []api.Token, e api.Errno) {
	for _, t := range told {
		switch t.Kind {
		case api.TokOpen:
			r.open(t)
		case api.TokClose:
			r.shut(t)
		default:
			r.put(api.Node{Token: t})
		}
	}
	if e != api.OK {
		panic(fault{e, r.scan.At().Begin})
	}
}

// open begins a list at its opening bracket.
func (r *Reader) open(bracket api.Token) {
	if r.depth == api.MaxNested {
		panic(fault{api.ErrNested, bracket.Begin})
	}
	bracket.Kind, bracket.Text = api.TokNone, ""
	r.lists = append(r.lists, api.Node{Token: bracket})
	r.depth++
}

// shut ends the innermost list at its closing bracket.
func (r *Reader) shut(bracket api.Token) {
	if r.depth == 0 {
		panic(fault{api.ErrParen, bracket.Begin})
	}
	list := r.lists[r.depth]
	list.Token.End = bracket.End
	r.lists[r.depth] = api.Node{} // what will be told is not kept in the spare room
	r.lists = r.lists[:r.depth]
	r.depth--
	r.put(list)
}

// put lays what is whole into the innermost list.
func (r *Reader) put(n api.Node) {
	in := &r.lists[r.depth]
	in.Kids = append(in.Kids, n)
}

// tell hands out the S-expressions that are whole.
func (r *Reader) tell() []api.Node {
	whole := r.lists[0].Kids
	r.lists[0].Kids = nil
	return whole
}

// stop keeps what is asked for behind the end alone.
func (r *Reader) stop(wrong fault) {
	*r = Reader{depth: r.depth, ended: true, wrong: wrong}
}
