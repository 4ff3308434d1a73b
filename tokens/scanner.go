package tokens

import "fulcrum/api"

// Scanner reads tokens of a text that comes in pieces.
type Scanner struct {
	state state
	come  []byte    // of a token that is not told; a piece itself is not kept
	begin api.Token // where that token begins; behind an error where that is
	read  int       // how many bytes have come
	lines int       // how many of them end a line
	ahead int       // how many of them stand ahead of the present line
	err   api.Errno // the one that was told
}

// New is a scanner that has read nothing.
func New() *Scanner {
	return &Scanner{state: between}
}

// Feed takes a piece: the tokens that are whole with it.
func (s *Scanner) Feed(piece string) ([]api.Token, api.Errno) {
	if e := s.refuses(); e != api.OK {
		return nil, e
	}
	var told []api.Token
	was, from := s.read, 0 // from is where a token's bytes in this piece begin
	for i, r := range piece {
		s.read = was + i
		next := follow(s.state, r)
		if next == over {
			told = append(told, s.tell(piece[from:i]))
			next = follow(between, r)
		}
		if !s.hasBegun() {
			s.begin, from = s.here(), i
		}
		if e := s.enter(next); e != api.OK {
			return told, e
		}
		switch {
		case next == opened || next == closed || next == barred:
			s.read++
			told = append(told, s.tell(piece[from:i+1]))
		case r == '\n':
			s.lines, s.ahead = s.lines+1, was+i+1
		}
	}
	s.read = was + len(piece)
	if s.hasBegun() {
		s.come = append(s.come, piece[from:]...)
	}
	return told, api.OK
}

// End says that nothing more comes: the tokens that are whole by that.
func (s *Scanner) End() ([]api.Token, api.Errno) {
	if e := s.refuses(); e != api.OK {
		return nil, e
	}
	var told []api.Token
	switch {
	case s.state == inBars || s.state == inString:
		return nil, s.fail(api.ErrQuote, s.begin)
	case s.state.kind() != api.TokNone:
		told = []api.Token{s.tell("")}
	case s.hasBegun():
		return nil, s.fail(api.ErrToken, s.begin)
	}
	s.state = ended
	return told, api.OK
}

// At is where the text that was read and is no token yet begins; behind an error where that is.
func (s *Scanner) At() api.Token {
	switch {
	case s == nil || s.state == unmade:
		return New().At()
	case s.state == failed || s.hasBegun():
		return s.begin
	}
	return s.here()
}

// refuses is why nothing more can come, or OK.
func (s *Scanner) refuses() api.Errno {
	switch {
	case s == nil || s.state == unmade || s.state == ended:
		return api.ErrArg
	case s.state == failed:
		return s.err
	}
	return api.OK
}

// hasBegun tells whether something has come of a token that is not told.
func (s *Scanner) hasBegun() bool {
	return s.state > inComment
}

// here is the place behind all that has come.
func (s *Scanner) here() api.Token {
	return api.Token{Begin: s.read, End: s.read, Line: s.lines + 1, Column: s.read - s.ahead + 1}
}

// enter goes on to what has come with the character that stands here, or fails by it.
func (s *Scanner) enter(next state) api.Errno {
	switch next {
	case broken:
		return s.fail(api.ErrToken, s.begin)
	case foul:
		return s.fail(api.ErrToken, s.here())
	}
	s.state = next
	return api.OK
}

// tell is the token that ends here, of which rest has come in this piece.
func (s *Scanner) tell(rest string) api.Token {
	bytes := string(append(s.come, rest...))
	t := s.begin
	t.Kind, t.Text, t.End = s.state.kind(), s.state.text(bytes), s.read
	s.state, s.come = between, nil
	return t
}

// fail keeps the error and its place alone.
func (s *Scanner) fail(e api.Errno, at api.Token) api.Errno {
	*s = Scanner{state: failed, begin: at, err: e}
	return e
}
