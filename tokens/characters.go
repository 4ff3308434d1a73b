package tokens

import "strings"

// Characters that are not of one byte are all alike: their bytes are 128 and above, and so are those that are no whole character.

func isBlank(r rune) bool {
	return r == '\t' || r == '\n' || r == '\r' || r == ' '
}

func isDigit(r rune) bool {
	return '0' <= r && r <= '9'
}

func isHex(r rune) bool {
	return isDigit(r) || 'a' <= r && r <= 'f' || 'A' <= r && r <= 'F'
}

func isBinary(r rune) bool {
	return r == '0' || r == '1'
}

func isSymbol(r rune) bool {
	return isDigit(r) || 'a' <= r && r <= 'z' || 'A' <= r && r <= 'Z' || strings.ContainsRune("~!@$%^&*_-+=<>.?/", r)
}

func mayNotBeQuoted(r rune) bool {
	const erase = 127
	return r < ' ' && !isBlank(r) || r == erase
}

func mayNotBeBarred(r rune) bool {
	return mayNotBeQuoted(r) || r == '|' || r == '\\'
}
