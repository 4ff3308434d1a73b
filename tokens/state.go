package tokens

import (
	"strings"

	"fulcrum/api"
)

// state is what a scanner has read: what has come of a token that is not told, or that there is none.
type state int

const (
	unmade    state = iota // New did not give the scanner
	ended                  // End told no error
	failed                 // an error was told
	between                // nothing has come of a token
	inComment              // nor has it here; but from the next state on something has
	opened
	closed
	inSymbol
	inBars
	barred // the second bar has come
	atColon
	inKeyword
	atNought // a numeral that begins with 0 has no other digit
	inNumeral
	atPoint
	inDecimal
	atSharp
	atHex
	inHex
	atBinary
	inBinary
	inString
	atQuote // the string ends here, or this is the first one of two quotes

	// What follow answers of a character that does not go on with the token.
	over   // the token ended ahead of it
	broken // what has come is no token, and will be none
	foul   // the character may not stand here
)

// follow is what has come when that character has come too.
func follow(was state, r rune) state {
	switch was {
	case between:
		return start(r)
	case inComment:
		return where(r != '\n' && r != '\r', inComment, between)
	case inSymbol, inKeyword:
		return where(isSymbol(r), was, over)
	case atColon:
		return where(isSymbol(r) && !isDigit(r), inKeyword, broken)
	case inBars, inString, atQuote:
		return followQuoted(was, r)
	}
	return followNumber(was, r)
}

func where(holds bool, then, otherwise state) state {
	if holds {
		return then
	}
	return otherwise
}

// start is what has come when a character comes ahead of which there is no token.
func start(r rune) state {
	switch r {
	case ';':
		return inComment
	case '(':
		return opened
	case ')':
		return closed
	case '|':
		return inBars
	case '"':
		return inString
	case ':':
		return atColon
	case '#':
		return atSharp
	case '0':
		return atNought
	}
	switch {
	case isBlank(r):
		return between
	case isDigit(r):
		return inNumeral
	case isSymbol(r):
		return inSymbol
	}
	return foul
}

func followQuoted(was state, r rune) state {
	switch {
	case was == atQuote:
		return where(r == '"', inString, over)
	case was == inBars && r == '|':
		return barred
	case was == inBars:
		return where(mayNotBeBarred(r), foul, inBars)
	case r == '"':
		return atQuote
	}
	return where(mayNotBeQuoted(r), foul, inString)
}

// followNumber is follow of numerals, decimals, and what begins with a sharp.
func followNumber(was state, r rune) state {
	switch {
	case (was == atNought || was == inNumeral) && r == '.':
		return atPoint
	case was == inNumeral && isDigit(r):
		return inNumeral
	case (was == atPoint || was == inDecimal) && isDigit(r):
		return inDecimal
	case was == atSharp && r == 'x':
		return atHex
	case was == atSharp && r == 'b':
		return atBinary
	case (was == atHex || was == inHex) && isHex(r):
		return inHex
	case (was == atBinary || was == inBinary) && isBinary(r):
		return inBinary
	}
	return where(was.kind() == api.TokNone || isSymbol(r), broken, over)
}

// kind is the kind of token that has come, if nothing more of it comes.
func (s state) kind() int {
	switch s {
	case opened:
		return api.TokOpen
	case closed:
		return api.TokClose
	case inSymbol, barred:
		return api.TokSymbol
	case inKeyword:
		return api.TokKeyword
	case atNought, inNumeral:
		return api.TokNumeral
	case inDecimal:
		return api.TokDecimal
	case inHex:
		return api.TokHex
	case inBinary:
		return api.TokBinary
	case atQuote:
		return api.TokString
	}
	return api.TokNone
}

// text is what a token's bytes say.
func (s state) text(bytes string) string {
	switch s {
	case inKeyword:
		return bytes[1:]
	case inHex, inBinary:
		return bytes[2:]
	case barred:
		return bytes[1 : len(bytes)-1]
	case atQuote:
		return strings.ReplaceAll(bytes[1:len(bytes)-1], `""`, `"`)
	}
	return bytes
}
