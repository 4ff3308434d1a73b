package analyse

import "fulcrum/api"

// wide is how many atoms a list of places has at most for each mark.
const wide = 16

// places is at which place, from 1 on, each atom has its mark, below 0, if its atom is false there: a list by the atoms, as that is looked at soonest, or a map, where their numbers are far greater than the marks are many.
type places struct {
	near []int
	far  map[int]int
}

func newPlaces(marks []api.Mark) places {
	greatest := 0
	for _, m := range marks {
		greatest = max(greatest, atom(m.Lit))
	}
	if greatest/wide > len(marks) {
		return places{far: make(map[int]int, len(marks))}
	}
	return places{near: make([]int, greatest+1)}
}

// put says that a literal is made true at a place.
func (p *places) put(lit, place int) {
	if lit < 0 {
		lit, place = -lit, -place
	}
	if p.far != nil {
		p.far[lit] = place
		return
	}
	p.near[lit] = place
}

// of is the place at which a literal was made true; that at which it was made false, times -1; or 0. (So is it of 0 and of the least int, which stand nowhere.)
func (p *places) of(lit int) int {
	place, a := 0, atom(lit)
	if p.far != nil {
		place = p.far[a]
	} else if a > 0 && a < len(p.near) {
		place = p.near[a]
	}
	if lit < 0 {
		return -place
	}
	return place
}
