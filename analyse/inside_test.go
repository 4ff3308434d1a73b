package analyse

import (
	"math"
	"math/rand"
	"slices"
	"testing"

	"fulcrum/api"
)

// A queue tells each place that it was given once, the greatest first, and marks none that it has told.
func TestFalling(t *testing.T) {
	r := rand.New(rand.NewSource(1))
	for range 300 {
		f := newFalling()
		var model []int
		for range 60 {
			if r.Intn(2) == 0 && len(model) > 0 {
				last := len(model) - 1
				if f.greatest() != model[last] || f.next() != model[last] {
					t.Fatal("not the greatest place first")
				}
				model = model[:last]
			} else {
				place := r.Intn(20)
				f.put(place)
				model = append(model, place)
				slices.Sort(model)
				model = slices.Compact(model)
			}
			if len(f.seen) != len(model) || f.isEmpty() != (len(model) == 0) {
				t.Fatal("marked:", f.seen, model)
			}
			for place := range 20 {
				if f.has(place) != slices.Contains(model, place) {
					t.Fatal("has:", place, model)
				}
			}
		}
	}
}

// Atoms with numbers far beyond the marks stand in a map, others in a list that is not much longer than the marks.
func TestPlaces(t *testing.T) {
	for _, atoms := range [][]int{{}, {1}, {1, 2, 3}, {3, 1, 15}, {40}, {1000, 1}, {math.MaxInt}, {math.MaxInt, 1, 2}} {
		var marks []api.Mark
		for _, a := range atoms {
			marks = append(marks, api.Mark{Lit: -a})
		}
		p := newPlaces(marks)
		if far := len(atoms) > 0 && slices.Max(atoms) > 30; (p.far != nil) != far || len(p.near) > wide*(len(marks)+1) {
			t.Fatal("a list or a map:", atoms, len(p.near), p.far)
		}
		for i, a := range atoms {
			p.put(a*(1-2*(i%2)), i+1)
		}
		for _, a := range append([]int{0, math.MinInt, 7, 16, 41, 1001, math.MaxInt - 1}, atoms...) {
			want := slices.Index(atoms, a) + 1
			if want%2 == 0 {
				want = -want
			}
			if p.of(a) != want || p.of(-a) != -want {
				t.Fatal("places:", atoms, a, p.of(a), p.of(-a), want)
			}
		}
	}
}
