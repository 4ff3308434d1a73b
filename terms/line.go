package terms

import (
	"fulcrum/api"
	"fulcrum/ratio"
)

// line is each parameter so many times, and a number alone. It is a number where all parameters that it needs are.
type line struct {
	times [fewParams]api.Rat
	needs [fewParams]bool
	alone api.Rat
}

// hangs tells whether a line is not the same number whatever the parameters are.
func hangs(l *line) bool {
	return l != nil && l.needs != [fewParams]bool{}
}

func (l line) plus(o line) line {
	for i := range l.times {
		l.times[i] = ratio.Add(l.times[i], o.times[i])
		l.needs[i] = l.needs[i] || o.needs[i]
	}
	l.alone = ratio.Add(l.alone, o.alone)
	return l
}

func (l line) by(r api.Rat) line {
	for i := range l.times {
		l.times[i] = ratio.Mul(l.times[i], r)
	}
	l.alone = ratio.Mul(l.alone, r)
	return l
}

// of is the line, if args are its parameters; nil, if one that it needs is no number.
func (l *line) of(args []*line) *line {
	if l == nil {
		return nil
	}
	out := line{alone: l.alone}
	for i, arg := range args {
		if !l.needs[i] {
			continue
		}
		if arg == nil {
			return nil
		}
		out = out.plus(arg.by(l.times[i]))
	}
	return &out
}

// bound is where some numbers lie: each is a whole number divided by den, and no farther from 0 than far.
type bound struct {
	den, far api.Rat
}

func boundOf(r api.Rat) bound {
	return bound{den: whole(ratio.Norm(r).Den), far: ratio.Abs(r)}
}

// or is where the numbers of both lie.
func (b bound) or(o bound) bound {
	return bound{den: multiple(b.den, o.den), far: greater(b.far, o.far)}
}

// plus is where sums of both lie, and both.
func (b bound) plus(o bound) bound {
	return bound{den: multiple(b.den, o.den), far: ratio.Add(b.far, o.far)}
}

// times is where products of both lie.
func (b bound) times(o bound) bound {
	return bound{den: ratio.Mul(b.den, o.den), far: ratio.Mul(b.far, o.far)}
}

// isShort tells whether no such number is too long.
func (b bound) isShort() bool {
	most := ratio.Floor(ratio.Mul(b.far, b.den))
	return !isLong(b.den) && len(most.Abs) <= api.MaxLimbs
}

// spread is where some lines lie: the sum of how often they have parameters, and the numbers alone.
type spread struct {
	times, alone bound
}

// nowhere is where 0 lies, as all do.
func nowhere() spread {
	return spread{times: boundOf(api.Rat{}), alone: boundOf(api.Rat{})}
}

func (l line) spread() spread {
	out := spread{times: boundOf(api.Rat{}), alone: boundOf(l.alone)}
	for _, r := range l.times {
		out.times = out.times.plus(boundOf(r))
	}
	return out
}

func (s spread) or(o spread) spread {
	return spread{times: s.times.or(o.times), alone: s.alone.or(o.alone)}
}

func (s spread) plus(o spread) spread {
	return spread{times: s.times.plus(o.times), alone: s.alone.plus(o.alone)}
}

// stretched is where the lines lie, whether they are taken so many times or not yet.
func (s spread) stretched(r api.Rat) spread {
	by := boundOf(r)
	by.far = greater(by.far, ratio.Whole(1))
	return spread{times: s.times.times(by), alone: s.alone.times(by)}
}

// of is where the lines lie, if lines that lie in args are their parameters.
func (s spread) of(args spread) spread {
	return spread{times: s.times.times(args.times), alone: s.alone.plus(s.times.times(args.alone))}
}

func (s spread) isLong() bool {
	return isLong(s.times.den) || isLong(s.times.far) || isLong(s.alone.den) || isLong(s.alone.far)
}

// size is how many limbs it is told by.
func (s spread) size() int {
	return limbs(s.times.den) + limbs(s.times.far) + limbs(s.alone.den) + limbs(s.alone.far)
}

func whole(n api.Nat) api.Rat {
	return api.Rat{Num: api.Int{Abs: n}, Den: api.Nat{1}}
}

// multiple is the least common multiple of two whole numbers above 0.
func multiple(a, b api.Rat) api.Rat {
	return ratio.Mul(whole(divided(a, b).Num.Abs), b)
}

func greater(a, b api.Rat) api.Rat {
	if ratio.Cmp(a, b) < 0 {
		return b
	}
	return a
}

// limbs is how many the longer part of a number has.
func limbs(r api.Rat) int {
	return max(len(r.Num.Abs), len(r.Den))
}
