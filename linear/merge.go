package linear

import (
	"cmp"

	"fulcrum/api"
	"fulcrum/ratio"
)

// merge makes one list that rises of two. Where order says 0 of two things, join makes one of both, or says that nothing is left of them.
func merge[T any](a, b []T, order func(x, y T) int, join func(x, y T) (T, bool)) []T {
	out := make([]T, 0, len(a)+len(b))
	for len(a) > 0 && len(b) > 0 {
		o := order(a[0], b[0])
		switch {
		case o < 0:
			out, a = append(out, a[0]), a[1:]
		case o > 0:
			out, b = append(out, b[0]), b[1:]
		default:
			if both, left := join(a[0], b[0]); left {
				out = append(out, both)
			}
			a, b = a[1:], b[1:]
		}
	}
	return append(append(out, a...), b...)
}

// sum is the normal form of two normal ones.
func sum(f, g api.Form) api.Form {
	return merge(f, g, byVar, joined)
}

func byVar(x, y api.Mono) int {
	return cmp.Compare(x.Var, y.Var)
}

// joined is two parts of one variable as one.
func joined(x, y api.Mono) (api.Mono, bool) {
	both := api.Mono{Var: x.Var, Coef: ratio.Add(x.Coef, y.Coef)}
	return both, ratio.Sign(both.Coef) != 0
}

// collect is the normal form of parts whose coefficients are normal. Like byHalves it keeps sums short.
func collect(parts api.Form) api.Form {
	if isNormal(parts) {
		return parts
	}
	if len(parts) == 1 {
		return nil // a coefficient that is 0
	}
	half := len(parts) / 2
	return sum(collect(parts[:half]), collect(parts[half:]))
}

// isNormal is asked of parts whose coefficients are normal.
func isNormal(parts api.Form) bool {
	for i, part := range parts {
		if ratio.Sign(part.Coef) == 0 || i > 0 && parts[i-1].Var >= part.Var {
			return false
		}
	}
	return true
}
