package optimum

import (
	"fulcrum/api"
	"fulcrum/ratio"
)

// direction is where a number goes. All that is otherwise on the way up than on the way down is asked of it, so that nothing else is written twice.
type direction interface {
	opposite() direction
	sign() api.Rat             // of a step that way
	end(l api.Limit) api.Bound // the bound that is met
	tells(v int) int           // how a dual tells that bound of v
}

type up struct{}

func (up) opposite() direction       { return down{} }
func (up) sign() api.Rat             { return ratio.Whole(1) }
func (up) end(l api.Limit) api.Bound { return l.Upper }
func (up) tells(v int) int           { return 2*v + 1 }

type down struct{}

func (down) opposite() direction       { return up{} }
func (down) sign() api.Rat             { return ratio.Whole(-1) }
func (down) end(l api.Limit) api.Bound { return l.Lower }
func (down) tells(v int) int           { return 2 * v }

// times is where so many times a number goes, if the number goes that way.
func times(c api.Rat, d direction) direction {
	if ratio.Sign(c) < 0 {
		return d.opposite()
	}
	return d
}

// told is the bound that a dual's why tells: the variable, and the direction in which it is met. A why below 0 tells one of a variable below 0.
func told(why int) (int, direction) {
	if why&1 == 0 {
		return why >> 1, down{}
	}
	return why >> 1, up{}
}
