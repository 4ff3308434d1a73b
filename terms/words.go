package terms

import (
	"fulcrum/api"
)

const (
	wordTrue  = "true"
	wordFalse = "false"
	wordLet   = "let"
	wordNamed = "!"
)

// word is one of the language's own words that stand ahead of kids and make a term of them.
type word int

const (
	noWord word = iota
	wordNot
	wordAnd
	wordOr
	wordXor
	wordImplies
	wordIte
	wordEqual
	wordDistinct
	wordLess
	wordAtMost
	wordAbove
	wordAtLeast
	wordPlus
	wordMinus
	wordTimes
	wordOver
)

// usage is a word's text, the kind of the terms that it makes, and how many kids it may have. Terms of that kind ask for kids of the same sorts as the word.
type usage struct {
	text        string
	kind        int
	least, most int
}

var usages = [...]usage{
	wordNot:      {"not", api.TermNot, 1, 1},
	wordAnd:      {"and", api.TermAnd, 2, many},
	wordOr:       {"or", api.TermOr, 2, many},
	wordXor:      {"xor", api.TermXor, 2, many},
	wordImplies:  {"=>", api.TermImplies, 2, many},
	wordIte:      {"ite", api.TermIte, 3, 3},
	wordEqual:    {"=", api.TermEqual, 2, many},
	wordDistinct: {"distinct", api.TermDistinct, 2, many},
	wordLess:     {"<", api.TermLess, 2, many},
	wordAtMost:   {"<=", api.TermAtMost, 2, many},
	wordAbove:    {">", api.TermLess, 2, many},
	wordAtLeast:  {">=", api.TermAtMost, 2, many},
	wordPlus:     {"+", api.TermAdd, 2, many},
	wordMinus:    {"-", api.TermAdd, 1, many},
	wordTimes:    {"*", api.TermScale, 2, many},
	wordOver:     {"/", api.TermScale, 2, many},
}

// wordOf is the word that a text is; noWord, if it is none of these.
func wordOf(text string) word {
	for w := wordNot; w <= wordOver; w++ {
		if usages[w].text == text {
			return w
		}
	}
	return noWord
}
