package linear

import (
	"fulcrum/api"
	"fulcrum/delta"
	"fulcrum/ratio"
)

// Value is a form's value.
func Value(f api.Form, vals []api.Rat) api.Rat {
	return byHalves(products(f, vals, ratio.Mul), ratio.Whole(0), ratio.Add)
}

// Deltas is a form's value, where the variables' values have deltas.
func Deltas(f api.Form, vals []api.Delta) api.Delta {
	return byHalves(products(f, vals, delta.Scale), delta.Of(ratio.Whole(0)), delta.Add)
}

// products is each part's coefficient times its variable's value, where there is one.
func products[T any](f api.Form, vals []T, scale func(c api.Rat, x T) T) []T {
	var out []T
	for _, part := range f {
		if isPlace(part.Var, len(vals)) {
			out = append(out, scale(part.Coef, vals[part.Var]))
		}
	}
	return out
}

// byHalves is all of l put together, none if there is nothing. It is done by halves, so that of many numbers with unlike denominators no sum grows long early. Of one thing alone it is that thing itself: what is handed out is put together of new memory.
func byHalves[T any](l []T, none T, join func(x, y T) T) T {
	switch len(l) {
	case 0:
		return none
	case 1:
		return l[0]
	}
	half := len(l) / 2
	return join(byHalves(l[:half], none, join), byHalves(l[half:], none, join))
}

// isPlace: a list that is so long has a place v.
func isPlace(v, length int) bool {
	return 0 <= v && v < length
}
