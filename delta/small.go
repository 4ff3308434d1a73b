package delta

import (
	"fulcrum/api"
	"fulcrum/ratio"
)

// Small is an amount so small that all gaps stay gaps.
func Small(l []api.Gap) (api.Rat, api.Errno) {
	least := ratio.Whole(1)
	look := func(g api.Gap) api.Errno {
		if Cmp(g.Lo, g.Hi) > 0 {
			return api.ErrGap
		}
		if !narrows(g) {
			return api.OK
		}
		if e := shut(g); ratio.Cmp(e, least) < 0 {
			least = e
		}
		return api.OK
	}
	for _, g := range l {
		if e := look(g); e != api.OK {
			return api.Rat{}, e
		}
	}
	return least, api.OK
}

// narrows: the ends of a gap come nearer to one another as the amount grows. If their A are the same, a gap that narrowed would have its Lo above its Hi.
func narrows(g api.Gap) bool {
	return ratio.Cmp(g.Lo.B, g.Hi.B) > 0
}

// shut is the amount at which the ends of a gap that narrows meet.
func shut(g api.Gap) api.Rat {
	apart := Sub(g.Hi, g.Lo)
	e, _ := ratio.Div(apart.A, ratio.Neg(apart.B)) // it narrows: this is not divided by 0
	return e
}
