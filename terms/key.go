package terms

import "fulcrum/api"

// key is a term as a value that can be compared: two terms are the same just if their keys are.
type key struct {
	kind, sort int
	name       string
	number     number
	kids       string
}

// number is a normal number as a value that can be compared.
type number struct {
	below    bool
	num, den string
}

func keyOf(t api.Term) key {
	return key{kind: t.Kind, sort: t.Sort, name: t.Name, number: numberOf(t.Number), kids: packed(t.Kids)}
}

func numberOf(r api.Rat) number {
	return number{below: r.Num.Neg, num: packed(r.Num.Abs), den: packed(r.Den)}
}

// packed is a list as a text with four bytes for each; terms' numbers are far below 2^32.
func packed[T int | uint32](l []T) string {
	out := make([]byte, 0, 4*len(l))
	for _, v := range l {
		out = append(out, byte(v), byte(v>>8), byte(v>>16), byte(v>>24))
	}
	return string(out)
}
