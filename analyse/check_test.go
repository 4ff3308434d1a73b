package analyse_test

import (
	"math"
	"math/rand"
	"slices"
	"testing"

	"fulcrum/analyse"
	"fulcrum/api"
)

// trail is clauses and marks over them that Check is asked for.
type trail struct {
	what    string
	clauses []api.Clause
	marks   []api.Mark
}

func (l trail) want(t *testing.T, e api.Errno) {
	t.Helper()
	wantErr(t, l.what, analyse.Check(l.clauses, l.marks), e)
	if (world{l.clauses, l.marks}).mayBe() != (e == api.OK) {
		t.Fatal("the model has it otherwise:", l.what)
	}
}

func TestL1MarksThatMayBe(t *testing.T) {
	for _, l := range []trail{
		{"no marks", nil, nil},
		{"no marks over clauses", []api.Clause{{}, {1}, {1, -1}}, nil},
		{"decided", nil, []api.Mark{at(1, 1, -1)}},
		{"decided, the opposite", nil, []api.Mark{at(-1, 1, -1)}},
		{"decided on one another", nil, []api.Mark{at(7, 1, -1), at(-3, 2, -1), at(5, 3, -1)}},
		{"forced", []api.Clause{{1}}, []api.Mark{at(1, 0, 0)}},
		{"forced on one another", []api.Clause{{-2, -3, 1}, {-1, 2}, {1}}, []api.Mark{at(1, 0, 2), at(2, 0, 1), at(-3, 1, -1)}},
		{"forced at the level ahead, though its clause asks for less", []api.Clause{{-1, 2}, {3}}, []api.Mark{at(1, 1, -1), at(5, 2, -1), at(2, 2, 0), at(3, 2, 1)}},
		{"decided behind forced ones", []api.Clause{{1}, {2, -1}}, []api.Mark{at(1, 0, 0), at(2, 0, 1), at(3, 1, -1), at(4, 2, -1)}},
		{"its literal twice", []api.Clause{{1, 1}, {2, -1, 2}}, []api.Mark{at(1, 0, 0), at(2, 0, 1)}},
		{"another literal twice", []api.Clause{{-1, 2, -1}}, []api.Mark{at(1, 1, -1), at(2, 1, 0)}},
		{"a literal that its clause forced already", []api.Clause{{1, 2}}, []api.Mark{at(-1, 1, -1), at(2, 1, 0)}},
		{"clauses that are no reasons, of what is no literal", []api.Clause{{0}, {math.MinInt, 1}, {2}}, []api.Mark{at(2, 0, 2), at(1, 1, -1)}},
		{"the same clause twice", []api.Clause{{-1, 2}, {-1, 2}}, []api.Mark{at(1, 1, -1), at(2, 1, 1)}},
		{"the greatest atoms", []api.Clause{{math.MaxInt}, {-math.MaxInt, 1 - math.MaxInt}}, []api.Mark{at(math.MaxInt, 0, 0), at(1-math.MaxInt, 0, 1), at(1, 1, -1)}},
		{"a false literal as the greatest", nil, []api.Mark{at(-math.MaxInt, 1, -1)}},
	} {
		l.want(t, api.OK)
	}
}

func TestL1MarksThatMayNotBe(t *testing.T) {
	c := []api.Clause{{1}, {-1, 2}, {-2, -3, 4}, {5, 0}, {5, math.MinInt}, {}, {-6, 6}}
	for _, l := range []trail{
		{"the first one decided at level 0", c, []api.Mark{at(1, 0, -1)}},
		{"the first one decided at level 2", c, []api.Mark{at(1, 2, -1)}},
		{"the first one decided at a level below 0", c, []api.Mark{at(1, -1, -1)}},
		{"the first one forced at level 1", c, []api.Mark{at(1, 1, 0)}},
		{"the first one forced at level -1", c, []api.Mark{at(1, -1, 0)}},
		{"decided one too low", c, []api.Mark{at(1, 0, 0), at(3, 1, -1), at(5, 1, -1)}},
		{"decided one too high", c, []api.Mark{at(1, 0, 0), at(3, 1, -1), at(5, 3, -1)}},
		{"decided at the greatest level", c, []api.Mark{at(1, math.MaxInt, -1)}},
		{"decided at the least level", c, []api.Mark{at(1, math.MinInt, -1)}},
		{"forced one too low", c, []api.Mark{at(1, 0, 0), at(3, 1, -1), at(2, 0, 1)}},
		{"forced one too high", c, []api.Mark{at(1, 0, 0), at(3, 1, -1), at(2, 2, 1)}},
		{"a literal decided twice", c, []api.Mark{at(3, 1, -1), at(3, 2, -1)}},
		{"a literal and its opposite", c, []api.Mark{at(3, 1, -1), at(-3, 2, -1)}},
		{"a literal forced twice", c, []api.Mark{at(1, 0, 0), at(1, 0, 0)}},
		{"a literal decided, then forced", c, []api.Mark{at(1, 1, -1), at(1, 1, 0)}},
		{"a literal forced, then its opposite decided", c, []api.Mark{at(1, 0, 0), at(-1, 1, -1)}},
		{"0 decided", c, []api.Mark{at(0, 1, -1)}},
		{"0 forced", c, []api.Mark{at(0, 0, 3)}},
		{"the least int decided", c, []api.Mark{at(math.MinInt, 1, -1)}},
		{"the least int forced", c, []api.Mark{at(math.MinInt, 0, 4)}},
		{"the reason -2", c, []api.Mark{at(1, 0, -2)}},
		{"the reason -2 a level on", c, []api.Mark{at(1, 1, -2)}},
		{"a reason behind the last clause", c, []api.Mark{at(1, 0, len(c))}},
		{"the greatest int as reason", c, []api.Mark{at(1, 0, math.MaxInt)}},
		{"the least int as reason", c, []api.Mark{at(1, 0, math.MinInt)}},
		{"a reason without clauses", nil, []api.Mark{at(1, 0, 0)}},
		{"a clause that has not the literal", c, []api.Mark{at(2, 0, 0)}},
		{"a clause that has the opposite", c, []api.Mark{at(-1, 0, 0)}},
		{"a broken clause of others", c, []api.Mark{at(-1, 1, -1), at(3, 1, 0)}},
		{"the empty clause", c, []api.Mark{at(1, 0, 5)}},
		{"a clause with an open literal", c, []api.Mark{at(2, 0, 1)}},
		{"a clause with a true literal", c, []api.Mark{at(-1, 1, -1), at(2, 1, 1)}},
		{"a clause with a literal that becomes false behind", c, []api.Mark{at(2, 0, 1), at(1, 0, 0)}},
		{"a clause that its own mark makes false", c, []api.Mark{at(6, 0, 6)}},
		{"a clause with one open literal of three", c, []api.Mark{at(3, 1, -1), at(4, 1, 2)}},
		{"a clause with 0", c, []api.Mark{at(5, 0, 3)}},
		{"a clause with the least int", c, []api.Mark{at(5, 0, 4)}},
	} {
		l.want(t, api.ErrTrail)
	}
}

// A wrong mark counts wherever it stands, and whatever stands behind it.
func TestL1AnyMark(t *testing.T) {
	const n = 40
	var good []api.Mark
	for i := range n {
		good = append(good, at(i+1, i+1, -1))
	}
	for i := range n {
		for _, m := range []api.Mark{at(0, i+1, -1), at(i+1, i, -1), at(i+1, i+1, 0), at(math.MinInt, i+1, -1), at(-(i+1)%n-1, i+1, -1)} {
			bad := slices.Clone(good)
			bad[i] = m
			trail{"one wrong mark", nil, bad}.want(t, api.ErrTrail)
		}
	}
	trail{"none", nil, good}.want(t, api.OK)
}

// spoilt is a world with one thing otherwise, which it may be or not.
func spoilt(r *rand.Rand, w world) world {
	w = world{slices.Clone(w.clauses), slices.Clone(w.marks)}
	lits := []int{0, math.MinInt, math.MaxInt, 1, -1, 2}
	for _, m := range w.marks {
		lits = append(lits, m.Lit, -m.Lit)
	}
	lit := lits[r.Intn(len(lits))]
	if n := r.Intn(len(w.clauses)); r.Intn(3) == 0 {
		c := slices.Clone(w.clauses[n])
		if len(c) == 0 || r.Intn(2) == 0 {
			c = append(c, lit)
		} else if r.Intn(2) == 0 {
			c[r.Intn(len(c))] = lit
		} else {
			c = c[1:]
		}
		w.clauses[n] = c
		return w
	}
	if len(w.marks) == 0 {
		w.marks = append(w.marks, at(lit, r.Intn(3)-1, r.Intn(len(w.clauses)+3)-2))
		return w
	}
	i := r.Intn(len(w.marks))
	m := &w.marks[i]
	switch r.Intn(6) {
	case 0:
		m.Lit = lit
	case 1:
		m.Level += 2*r.Intn(2) - 1
	case 2:
		m.Reason = r.Intn(len(w.clauses)+4) - 3
	case 3:
		w.marks = slices.Delete(w.marks, i, i+1)
	case 4:
		j := r.Intn(len(w.marks))
		w.marks[i], w.marks[j] = w.marks[j], w.marks[i]
	case 5:
		w.marks = slices.Insert(w.marks, i, w.marks[r.Intn(len(w.marks))])
	}
	return w
}

func TestL1Drawn(t *testing.T) {
	r := rand.New(rand.NewSource(1))
	wrong := 0
	for range 20000 {
		w := someWorld(r)
		wantErr(t, "Check", analyse.Check(w.clauses, w.marks), api.OK)
		w = spoilt(r, w)
		want := api.OK
		if !w.mayBe() {
			want = api.ErrTrail
			wrong++
		}
		if got := analyse.Check(w.clauses, w.marks); got != want {
			t.Fatalf("Check of %v over %v: %d, not %d", w.marks, w.clauses, got, want)
		}
	}
	if wrong < 5000 {
		t.Fatal("few wrong ones:", wrong)
	}
}

// ErrTrail comes ahead of whatever else is wrong, and is told where nothing else is.
func TestL1AheadOfAllElse(t *testing.T) {
	w := example()
	l, _ := analyse.First(w.clauses, w.marks, 3)
	w.marks[0].Level = 1
	for _, conflict := range append(noPlaces(len(w.clauses)), 0, 3, 4, 5) {
		got, e := analyse.First(w.clauses, w.marks, conflict)
		wantErr(t, "First", e, api.ErrTrail)
		wantLearnt(t, "First beside an error", got, api.Learnt{})
	}
	for _, c := range []api.Clause{l.Clause, nil, {0}, {math.MinInt}, {9}, {-5, -5}, {-3}} {
		got, e := analyse.Less(w.clauses, w.marks, api.Learnt{Clause: c, Back: 1, Chain: []int{3}})
		wantErr(t, "Less", e, api.ErrTrail)
		wantLearnt(t, "Less beside an error", got, api.Learnt{})
	}
	for _, lit := range []int{5, -5, 9, 0, math.MinInt} {
		got, e := analyse.Final(w.clauses, w.marks, lit)
		wantErr(t, "Final", e, api.ErrTrail)
		wantInts(t, "Final beside an error", got)
	}
}

// Many marks, a long reason, and atoms that are far apart take no longer than they must.
func TestL1ManyMarks(t *testing.T) {
	const n = 1 << 18
	for _, apart := range []int{1, math.MaxInt / (n + 1)} {
		l, long := []api.Clause{{-apart}}, api.Clause{}
		marks := []api.Mark{at(-apart, 0, 0)}
		for i := 2; i <= n; i++ {
			level := marks[i-2].Level
			if i%3 == 0 {
				marks = append(marks, at(-i*apart, level+1, -1))
				long = append(long, i*apart)
				continue
			}
			marks = append(marks, at(-i*apart, level, len(l)))
			l = append(l, api.Clause{(i - 1) * apart, -i * apart})
		}
		last := (n + 1) * apart
		marks = append(marks, at(last, marks[n-1].Level, len(l)))
		l = append(l, append(long, last))
		wantErr(t, "Check", analyse.Check(l, marks), api.OK)
		marks[n].Lit = -last
		wantErr(t, "Check of the opposite", analyse.Check(l, marks), api.ErrTrail)
	}
}
