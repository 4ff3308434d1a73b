package heap

// The step at first, by what it is divided, what no score and no step stays above, and what makes them small.
const (
	begin = 1.0
	fade  = 0.95
	most  = 1e100
	small = 1e-100
)

// scores is of each variable how active it is.
type scores []float64

// ahead is the order of variables: the more active one, or of two alike the one with the lesser number.
func (s scores) ahead(v, w int) bool {
	return s[v] > s[w] || s[v] == s[w] && v < w
}

// lessened is a number made small. Without the conversion the language lets a product be rounded together with the sum that it goes into, not by itself.
func lessened(a float64) float64 {
	return float64(a * small)
}
