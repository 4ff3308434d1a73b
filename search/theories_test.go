package search_test

import (
	"fmt"
	"math/rand"
	"slices"

	"fulcrum/api"
)

// witness is a theory that lets all stand, and looks at how it is called.
type witness struct {
	atoms int
	told  []int
	isIn  map[int]bool // those that were told
	begun []int        // of each level how many literals had been told ahead
	calls int
	wrong []string // what a solver may not do
	final int      // how often Final was asked
}

func (w *witness) see(may bool, what string, n int) {
	w.calls++
	if !may {
		w.wrong = append(w.wrong, fmt.Sprint(what, " of ", n, " behind ", w.told, " on level ", len(w.begun)))
	}
}

func (w *witness) Assert(lit int) api.Said {
	isLit := lit != 0 && lit >= -w.atoms && lit <= w.atoms
	w.see(isLit && !w.isIn[lit] && !w.isIn[-lit], "Assert", lit)
	if w.isIn == nil {
		w.isIn = map[int]bool{}
	}
	w.told = append(w.told, lit)
	w.isIn[lit] = true
	return api.Said{}
}

func (w *witness) Push() {
	w.see(true, "Push", 0)
	w.begun = append(w.begun, len(w.told))
}

func (w *witness) Back(level int) {
	w.see(level >= 0 && level <= len(w.begun), "Back", level)
	if level >= 0 && level < len(w.begun) {
		stays := w.begun[level]
		for _, lit := range w.told[stays:] {
			delete(w.isIn, lit)
		}
		w.told, w.begun = w.told[:stays], w.begun[:level]
	}
}

func (w *witness) Final() api.Said {
	w.see(len(w.told) == w.atoms, "Final", len(w.told))
	w.final++
	return api.Said{}
}

// manner is how a theory says what it has to say; of each a share of a hundred times. What it has not said is said by Final.
type manner struct {
	clash   int // a Clash by Assert
	implied int // an Implied, of each literal that must be true
	late    int // clauses of what was asserted earlier, or that say nothing new
	short   int // literals that can be left out of a clause are
	twice   int // a literal stands there twice
}

func manners() map[string]manner {
	return map[string]manner{
		"by Final alone":      {},
		"by short Finals":     {short: 100},
		"by early clashes":    {clash: 100, short: 50},
		"by long clashes":     {clash: 100},
		"by implied":          {implied: 100, short: 100},
		"by long implied":     {implied: 100},
		"by both":             {clash: 100, implied: 100, short: 70, twice: 20},
		"now and then":        {clash: 30, implied: 30, short: 60, late: 20, twice: 10},
		"late":                {clash: 10, implied: 10, short: 90, late: 60},
		"by much of no news":  {implied: 50, late: 100, short: 100},
		"by clashes and late": {clash: 50, late: 50, twice: 50, short: 80},
	}
}

// fixed is a theory that lets some values stand. It spoils what it said, once it is called again.
type fixed struct {
	witness
	stands  []truths
	how     manner
	r       *rand.Rand
	said    []api.Clause // all, as they were said
	last    []api.Clause // what was handed out, to be looked at again
	lastWas []api.Clause
}

func newFixed(atoms int, stands []truths, how manner, seed int64) *fixed {
	return &fixed{witness: witness{atoms: atoms}, stands: stands, how: how, r: rand.New(rand.NewSource(seed))}
}

// someStand draws values that stand, about as many in a hundred.
func someStand(r *rand.Rand, atoms, share int) []truths {
	out := []truths{}
	for _, v := range all(atoms) {
		if r.Intn(100) < share {
			out = append(out, v)
		}
	}
	return out
}

func (f *fixed) chance(share int) bool {
	return f.r.Intn(100) < share
}

// holds tells whether all values that stand make a clause true.
func (f *fixed) holds(c api.Clause) bool {
	return !slices.ContainsFunc(f.stands, func(v truths) bool { return !v.clause(c) })
}

// opposites is the opposites of what was asserted, drawn to another order.
func (f *fixed) opposites() api.Clause {
	c := api.Clause{}
	for _, i := range f.r.Perm(len(f.told)) {
		c = append(c, -f.told[i])
	}
	return c
}

// shorter leaves out of a clause that holds what may go, but never all, nor what must stay.
func (f *fixed) shorter(c api.Clause, stays int) api.Clause {
	for i := 0; i < len(c); {
		less := slices.Delete(slices.Clone(c), i, i+1)
		if c[i] != stays && len(less) > 0 && f.chance(f.how.short) && f.holds(less) {
			c = less
			continue
		}
		i++
	}
	if f.chance(f.how.twice) {
		c = append(c, c[f.r.Intn(len(c))])
	}
	return c
}

func (f *fixed) clash() api.Clause {
	if c := f.opposites(); len(c) > 0 && f.holds(c) {
		return f.shorter(c, 0)
	}
	return nil
}

// implied is clauses of literals of which neither they nor their opposites were asserted; some of others too.
func (f *fixed) implied() []api.Clause {
	var out []api.Clause
	for _, i := range f.r.Perm(2 * f.atoms) {
		lit := 1 + i/2
		if i%2 == 0 {
			lit = -lit
		}
		share := f.how.implied
		if f.isIn[lit] || f.isIn[-lit] {
			share = f.how.late
		}
		c := slices.DeleteFunc(f.opposites(), func(other int) bool { return other == -lit })
		c = append(slices.DeleteFunc(c, func(other int) bool { return other == lit }), lit)
		if f.chance(share) && f.holds(c) {
			c = f.shorter(c, lit)
			f.r.Shuffle(len(c), func(i, k int) { c[i], c[k] = c[k], c[i] })
			out = append(out, c)
		}
	}
	return out
}

// looked looks whether the solver changed what it was told, and spoils it.
func (f *fixed) looked() {
	for i, c := range f.last {
		if !slices.Equal(c[:cap(c)], f.lastWas[i]) {
			f.wrong = append(f.wrong, fmt.Sprint("what was said is changed to ", c))
		}
		spoil(c, behind)
	}
	f.last, f.lastWas = nil, nil
}

// hand notes what is said, with room behind each clause in which something else stands.
func (f *fixed) hand(said api.Said) api.Said {
	f.looked()
	if len(said.Clash) > 0 {
		said.Clash = f.handed(said.Clash)
	}
	for i, c := range said.Implied {
		said.Implied[i] = f.handed(c)
	}
	return said
}

func (f *fixed) handed(c api.Clause) api.Clause {
	f.said = append(f.said, slices.Clone(c))
	out := roomy(c)
	f.last = append(f.last, out)
	f.lastWas = append(f.lastWas, slices.Clone(out[:cap(out)]))
	return out
}

func (f *fixed) Assert(lit int) api.Said {
	f.witness.Assert(lit)
	var said api.Said
	if f.chance(f.how.clash) {
		said.Clash = f.clash()
	}
	said.Implied = f.implied()
	return f.hand(said)
}

func (f *fixed) Push() {
	f.looked()
	f.witness.Push()
}

func (f *fixed) Back(level int) {
	f.looked()
	f.witness.Back(level)
}

func (f *fixed) Final() api.Said {
	f.witness.Final()
	return f.hand(api.Said{Clash: f.clash(), Implied: f.implied()})
}

const behind = -77

// roomy is the same literals with room behind their end, in which something else stands.
func roomy(c api.Clause) api.Clause {
	return append(slices.Clone(c), behind, behind, behind)[: len(c) : len(c)+3]
}

func spoil[T any](l []T, by T) {
	l = l[:cap(l)]
	for i := range l {
		l[i] = by
	}
}
