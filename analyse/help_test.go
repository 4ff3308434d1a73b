package analyse_test

import (
	"cmp"
	"math"
	"math/rand"
	"slices"
	"testing"

	"fulcrum/analyse"
	"fulcrum/api"
)

func wantErr(t *testing.T, what string, got, want api.Errno) {
	t.Helper()
	if got != want {
		t.Fatalf("%s: the error %d, not %d", what, got, want)
	}
}

func wantInt(t *testing.T, what string, got, want int) {
	t.Helper()
	if got != want {
		t.Fatalf("%s: %d, not %d", what, got, want)
	}
}

// wantInts: nil and the empty list are the same.
func wantInts(t *testing.T, what string, got []int, want ...int) {
	t.Helper()
	if !slices.Equal(got, want) {
		t.Fatalf("%s: %v, not %v", what, got, want)
	}
}

func isSame(a, b api.Learnt) bool {
	return slices.Equal(a.Clause, b.Clause) && a.Back == b.Back && slices.Equal(a.Chain, b.Chain)
}

func wantLearnt(t *testing.T, what string, got, want api.Learnt) {
	t.Helper()
	if !isSame(got, want) {
		t.Fatalf("%s: %v, not %v", what, got, want)
	}
}

// wantFirst: First teaches this of that conflict.
func wantFirst(t *testing.T, w world, conflict int, want api.Learnt) {
	t.Helper()
	got, e := analyse.First(w.clauses, w.marks, conflict)
	wantErr(t, "First", e, api.OK)
	wantLearnt(t, "First", got, want)
}

func wantLess(t *testing.T, w world, l, want api.Learnt) {
	t.Helper()
	got, e := analyse.Less(w.clauses, w.marks, l)
	wantErr(t, "Less", e, api.OK)
	wantLearnt(t, "Less", got, want)
}

func wantReplay(t *testing.T, l []api.Clause, chain []int, want ...int) {
	t.Helper()
	got, e := analyse.Replay(l, chain)
	wantErr(t, "Replay", e, api.OK)
	wantInts(t, "Replay", got, want...)
}

func learnt(back int, clause api.Clause, chain ...int) api.Learnt {
	return api.Learnt{Clause: clause, Back: back, Chain: chain}
}

func at(lit, level, reason int) api.Mark {
	return api.Mark{Lit: lit, Level: level, Reason: reason}
}

// noPlaces is ints that are no places of so many clauses.
func noPlaces(n int) []int {
	return []int{-1, -2, n, n + 1, math.MaxInt, math.MinInt, math.MaxInt32, math.MinInt32, 1 << 32, -1 << 32}
}

// world is clauses and marks, of which all is told as the chapter says it, by lists that are gone over anew.
type world struct {
	clauses []api.Clause
	marks   []api.Mark
}

func isLit(lit int) bool {
	return lit != 0 && lit != math.MinInt
}

// place is where the mark stands that made a literal false, or -1.
func (w world) place(lit int) int {
	if !isLit(lit) {
		return -1
	}
	return slices.IndexFunc(w.marks, func(m api.Mark) bool { return m.Lit == -lit })
}

func (w world) level(lit int) int {
	return w.marks[w.place(lit)].Level
}

func (w world) isBroken(c api.Clause) bool {
	return !slices.ContainsFunc(c, func(lit int) bool { return w.place(lit) < 0 })
}

func (w world) mayBe() bool {
	level := 0
	for i, m := range w.marks {
		ahead := world{w.clauses, w.marks[:i]}
		if !isLit(m.Lit) || ahead.place(m.Lit) >= 0 || ahead.place(-m.Lit) >= 0 {
			return false
		}
		if m.Reason == -1 {
			level++
		} else {
			if m.Reason < 0 || m.Reason >= len(w.clauses) || !slices.Contains(w.clauses[m.Reason], m.Lit) {
				return false
			}
			others := slices.DeleteFunc(slices.Clone(w.clauses[m.Reason]), func(lit int) bool { return lit == m.Lit })
			if !ahead.isBroken(others) {
				return false
			}
		}
		if m.Level != level {
			return false
		}
	}
	return true
}

func add(set []int, lit int) []int {
	if slices.Contains(set, lit) {
		return set
	}
	return append(set, lit)
}

// resolve is a set behind one of its literals was resolved, and the reason.
func (w world) resolve(set []int, lit int) ([]int, int) {
	m := w.marks[w.place(lit)]
	var out []int
	for _, other := range set {
		if other != lit {
			out = add(out, other)
		}
	}
	for _, other := range w.clauses[m.Reason] {
		if other != m.Lit {
			out = add(out, other)
		}
	}
	return out, m.Reason
}

// ofLevel is the literals of a set that have a level, by falling places.
func (w world) ofLevel(set []int, level int) []int {
	var out []int
	for _, lit := range set {
		if w.level(lit) == level {
			out = append(out, lit)
		}
	}
	return w.fallen(out)
}

// fallen is literals by falling places.
func (w world) fallen(l []int) []int {
	out := slices.Clone(l)
	slices.SortFunc(out, func(a, b int) int { return cmp.Compare(w.place(b), w.place(a)) })
	return out
}

func (w world) cleaned(set, chain []int) ([]int, []int) {
	for {
		low := w.ofLevel(set, 0)
		if len(low) == 0 {
			return set, chain
		}
		var reason int
		set, reason = w.resolve(set, low[0])
		chain = append(chain, reason)
	}
}

// told is a lesson of a first literal and others in any order.
func (w world) told(first int, others, chain []int) api.Learnt {
	out := api.Learnt{Clause: append(api.Clause{first}, w.fallen(others)...), Chain: chain}
	for _, lit := range others {
		out.Back = max(out.Back, w.level(lit))
	}
	return out
}

func without(set []int, lit int) []int {
	return slices.DeleteFunc(slices.Clone(set), func(other int) bool { return other == lit })
}

func (w world) first(conflict int) (api.Learnt, api.Errno) {
	if !w.mayBe() {
		return api.Learnt{}, api.ErrTrail
	}
	if conflict < 0 || conflict >= len(w.clauses) || !w.isBroken(w.clauses[conflict]) {
		return api.Learnt{}, api.ErrLearn
	}
	var set []int
	greatest := 0
	for _, lit := range w.clauses[conflict] {
		set = add(set, lit)
		greatest = max(greatest, w.level(lit))
	}
	if greatest == 0 {
		return api.Learnt{}, api.ErrLearn
	}
	chain := []int{conflict}
	for {
		top := w.ofLevel(set, greatest)
		if len(top) < 2 {
			break
		}
		var reason int
		set, reason = w.resolve(set, top[0])
		chain = append(chain, reason)
	}
	set, chain = w.cleaned(set, chain)
	first := w.ofLevel(set, greatest)[0]
	return w.told(first, without(set, first), chain), api.OK
}

func (w world) isLesson(c api.Clause) bool {
	if len(c) == 0 || !w.isBroken(c) {
		return false
	}
	for i, lit := range c {
		if slices.Contains(c[:i], lit) || w.level(lit) == 0 || i > 0 && w.level(lit) >= w.level(c[0]) {
			return false
		}
	}
	return true
}

func (w world) less(l api.Learnt) (api.Learnt, api.Errno) {
	if !w.mayBe() {
		return api.Learnt{}, api.ErrTrail
	}
	if !w.isLesson(l.Clause) {
		return api.Learnt{}, api.ErrLearn
	}
	set, chain := slices.Clone([]int(l.Clause)), slices.Clone(l.Chain)
	for _, lit := range w.fallen(l.Clause[1:]) {
		m := w.marks[w.place(lit)]
		if m.Reason == -1 || slices.ContainsFunc(w.clauses[m.Reason], func(other int) bool {
			return other != m.Lit && !slices.Contains(set, other) && w.level(other) > 0
		}) {
			continue
		}
		var reason int
		set, reason = w.resolve(set, lit)
		set, chain = w.cleaned(set, append(chain, reason))
	}
	return w.told(l.Clause[0], without(set, l.Clause[0]), chain), api.OK
}

func (w world) final(lit int) ([]int, api.Errno) {
	if !w.mayBe() {
		return nil, api.ErrTrail
	}
	if w.place(-lit) < 0 || !isLit(lit) {
		return nil, api.ErrLearn
	}
	counts := []int{w.place(-lit)}
	for i := 0; i < len(counts); i++ {
		m := w.marks[counts[i]]
		if m.Reason == -1 {
			continue
		}
		for _, other := range w.clauses[m.Reason] {
			if other != m.Lit {
				counts = add(counts, w.place(other))
			}
		}
	}
	slices.Sort(counts)
	var out []int
	for _, place := range counts {
		if m := w.marks[place]; m.Reason == -1 {
			out = append(out, m.Lit)
		}
	}
	return out, api.OK
}

func glue(marks []api.Mark, c api.Clause) (int, api.Errno) {
	var levels []int
	for _, lit := range c {
		i := slices.IndexFunc(marks, func(m api.Mark) bool { return m.Lit == lit || m.Lit == -lit })
		if !isLit(lit) || i < 0 {
			return 0, api.ErrLearn
		}
		levels = add(levels, marks[i].Level)
	}
	return len(levels), api.OK
}

func replay(l []api.Clause, chain []int) (api.Clause, api.Errno) {
	if len(chain) == 0 {
		return nil, api.ErrLearn
	}
	var set []int
	for i, n := range chain {
		if n < 0 || n >= len(l) || slices.ContainsFunc(l[n], func(lit int) bool { return !isLit(lit) }) {
			return nil, api.ErrLearn
		}
		gone := 0
		if i > 0 {
			var clash []int
			for _, lit := range set {
				if slices.Contains(l[n], -lit) {
					clash = append(clash, lit)
				}
			}
			if len(clash) != 1 {
				return nil, api.ErrLearn
			}
			gone = clash[0]
			set = without(set, gone)
		}
		for _, lit := range l[n] {
			if lit != -gone {
				set = add(set, lit)
			}
		}
	}
	slices.SortFunc(set, func(a, b int) int { return cmp.Or(cmp.Compare(max(a, -a), max(b, -b)), cmp.Compare(b, a)) })
	return set, api.OK
}

// someAtoms is atoms that are apart: small ones, such as a search has, ones that are far apart, and ones as great as can be.
func someAtoms(r *rand.Rand, n int) []int {
	var out []int
	for _, i := range r.Perm(n) {
		out = append(out, i+1)
	}
	switch r.Intn(4) {
	case 0:
		for i := range out {
			out[i] = out[i]*1_000_003 + r.Intn(1000)
		}
	case 1:
		for i := range out {
			out[i] = math.MaxInt - out[i] + 1
		}
	}
	return out
}

// someFalse is so many literals that marks made false, the late ones more often, some more than once.
func someFalse(r *rand.Rand, marks []api.Mark, n int) []int {
	var out []int
	for range n {
		if len(marks) == 0 {
			break
		}
		i := r.Intn(len(marks))
		if r.Intn(2) == 0 {
			i = max(i, r.Intn(len(marks)))
		}
		out = append(out, -marks[i].Lit)
		if r.Intn(10) == 0 {
			out = append(out, -marks[i].Lit)
		}
	}
	return out
}

// someWorld is marks that may be, over clauses in any order, among which are some that are broken and some of any literals.
func someWorld(r *rand.Rand) world {
	var w world
	n := r.Intn(16)
	all := someAtoms(r, n+3)
	low, level := r.Intn(5), 0
	for _, a := range all[:n] {
		lit := a * (2*r.Intn(2) - 1)
		if len(w.marks) >= low && r.Intn(3) == 0 {
			level++
			w.marks = append(w.marks, at(lit, level, -1))
			continue
		}
		c := append(api.Clause{lit}, someFalse(r, w.marks, r.Intn(4))...)
		if r.Intn(8) == 0 {
			c = append(c, lit)
		}
		r.Shuffle(len(c), func(i, j int) { c[i], c[j] = c[j], c[i] })
		w.marks = append(w.marks, at(lit, level, len(w.clauses)))
		w.clauses = append(w.clauses, c)
	}
	for range 3 {
		w.clauses = append(w.clauses, someFalse(r, w.marks, r.Intn(5)))
	}
	for range 2 {
		var c api.Clause
		for range r.Intn(4) {
			c = append(c, all[r.Intn(len(all))]*(2*r.Intn(2)-1))
		}
		w.clauses = append(w.clauses, c)
	}
	return w.shuffled(r)
}

// shuffled is the same world, its clauses in another order.
func (w world) shuffled(r *rand.Rand) world {
	out := world{make([]api.Clause, len(w.clauses)), slices.Clone(w.marks)}
	where := r.Perm(len(w.clauses))
	for n, c := range w.clauses {
		out.clauses[where[n]] = c
	}
	for i, m := range out.marks {
		if m.Reason >= 0 {
			out.marks[i].Reason = where[m.Reason]
		}
	}
	return out
}

// someLesson is a clause that Less takes, if there is one, its others in any order, behind any chain.
func (w world) someLesson(r *rand.Rand) api.Learnt {
	var out api.Learnt
	var high []int
	for _, m := range w.marks {
		if m.Level > 0 {
			high = append(high, -m.Lit)
		}
	}
	if len(high) > 0 {
		first := high[max(r.Intn(len(high)), r.Intn(len(high)))]
		out.Clause = api.Clause{first}
		for _, i := range r.Perm(len(high)) {
			if w.level(high[i]) < w.level(first) && r.Intn(4) > 0 {
				out.Clause = append(out.Clause, high[i])
			}
		}
	}
	for range r.Intn(3) {
		out.Chain = append(out.Chain, r.Intn(9)-2)
	}
	out.Back = r.Intn(5) - 1
	return out
}

// example is the chapter's.
func example() world {
	return world{
		[]api.Clause{{-1, 2}, {-1, -3, 4}, {-2, -4, 5}, {-4, -5}, {3}, {-6, 7}},
		[]api.Mark{at(3, 0, 4), at(6, 1, -1), at(7, 1, 5), at(1, 2, -1), at(2, 2, 0), at(4, 2, 1), at(5, 2, 2)},
	}
}
