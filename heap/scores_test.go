package heap_test

import (
	"fmt"
	"math"
	"math/rand"
	"testing"

	"fulcrum/api"
)

func TestH3NoSuchVariable(t *testing.T) {
	for _, size := range []int{0, 1, 5} {
		h, m := full(t, size), newModel(size)
		for v := range size {
			m.push(v)
		}
		for _, v := range far(size) {
			s, e := h.Score(v)
			wantErr(t, fmt.Sprint("Score of ", v), e, api.ErrVar)
			wantFloat(t, "Score beside an error", s, 0)
			wantErr(t, fmt.Sprint("Bump of ", v), h.Bump(v), api.ErrVar)
		}
		wantLike(t, "behind errors", h, m)
	}
}

// Bump adds the step to that score alone, whether the variable stands in the heap or not.
func TestH3Bump(t *testing.T) {
	for _, stands := range []bool{true, false} {
		h := newHeap(t, 3)
		if stands {
			h = full(t, 3)
		}
		bump(t, h, 2)
		wantScore(t, h, 2, 1)
		bump(t, h, 2)
		wantScore(t, h, 2, 2)
		h.Decay()
		wantScore(t, h, 2, 2)
		wantFloat(t, "Step", h.Step(), 1.0526315789473684)
		bump(t, h, 2)
		wantScore(t, h, 2, 3.0526315789473681)
		bump(t, h, 1)
		wantScore(t, h, 1, 1.0526315789473684)
		wantScore(t, h, 0, 0)
		wantFloat(t, "Step", h.Step(), 1.0526315789473684)
		if h.Has(2) != stands || h.Has(0) != stands {
			t.Fatal("Bump changed what stands there")
		}
	}
}

// What was bumped ahead of Push counts then.
func TestH3BumpAheadOfPush(t *testing.T) {
	h := newHeap(t, 4)
	bump(t, h, 3)
	bump(t, h, 3)
	bump(t, h, 2)
	for v := range 4 {
		push(t, h, v)
	}
	wantInts(t, "Order", h.Order(), 3, 2, 0, 1)
	wantPop(t, h, 3)
	h.Decay()
	bump(t, h, 1)
	bump(t, h, 3)
	push(t, h, 3)
	wantInts(t, "Order", h.Order(), 3, 1, 2, 0)
}

// Each sum and each quotient is rounded by itself.
func TestH3ToTheLastBit(t *testing.T) {
	h, score, by := newHeap(t, 2), 0.0, 1.0
	for i := range 4400 {
		bump(t, h, i%2)
		if i%2 == 1 {
			score = sum(score, by)
			wantScore(t, h, 1, score)
		}
		h.Decay()
		by = quotient(by, fade)
		wantFloat(t, "Step", h.Step(), by)
	}
}

// A score that is 1e100 stays; above it, be it by the last bit, all is made small: also what does not stand in the heap.
func TestH3JustAtTheMost(t *testing.T) {
	above := math.Nextafter(most, math.Inf(1))
	for _, c := range []struct {
		target float64
		smalls int
	}{{math.Nextafter(most, 0), 0}, {most, 0}, {above, 1}, {math.Nextafter(above, math.Inf(1)), 1}} {
		h, m := newHeap(t, 5), newModel(5)
		for _, v := range []int{0, 2, 4} {
			push(t, h, v)
			m.push(v)
		}
		raiseTo(t, h, m, c.target, 3e77, 5e20, 7e18)
		what := fmt.Sprint("a score of ", c.target)
		wantInt(t, what, m.smalls, c.smalls)
		wantLike(t, what, h, m)
		if c.smalls == 0 {
			wantScore(t, h, 0, c.target)
			wantScore(t, h, 3, 7e18)
		} else {
			wantScore(t, h, 0, product(c.target, tenth))
			wantScore(t, h, 1, product(3e77, tenth))
			wantScore(t, h, 2, product(5e20, tenth))
			wantScore(t, h, 3, product(7e18, tenth))
		}
		wantScore(t, h, 4, 0)
		wantInts(t, what, h.Order(), 0, 2, 4)
	}
}

// Bump asks that score alone whether all is to be made small: another one that is just 1e100 is not above it, and a Decay does not look at scores.
func TestH3OthersAtTheMost(t *testing.T) {
	h, m := newHeap(t, 2), newModel(2)
	raiseTo(t, h, m, most)
	bump(t, h, 1)
	m.bump(1)
	h.Decay()
	m.decay()
	wantInt(t, "so often made small", m.smalls, 0)
	wantScore(t, h, 0, most)
	wantLike(t, "beside 1e100", h, m)
	bump(t, h, 0)
	m.bump(0)
	wantInt(t, "so often made small", m.smalls, 1)
	wantLike(t, "above 1e100", h, m)
}

// By Bump the step is made small too, and goes on from there.
func TestH3TheStepIsMadeSmall(t *testing.T) {
	h, m := full(t, 3), newModel(3)
	for v := range 3 {
		m.push(v)
	}
	for range 4480 {
		h.Decay()
		m.decay()
	}
	for m.smalls == 0 {
		bump(t, h, 1)
		m.bump(1)
	}
	if h.Step() > 1 || h.Step() < 0.1 {
		t.Fatal("Step:", h.Step())
	}
	wantLike(t, "made small", h, m)
	bump(t, h, 2)
	m.bump(2)
	wantLike(t, "gone on with", h, m)
	for range 4600 {
		h.Decay()
		m.decay()
	}
	wantInt(t, "so often made small", m.smalls, 2)
	wantLike(t, "gone on with", h, m)
}

// Above 1e100 the variable that was bumped moves up all the same.
func TestH3MovesUpWhereAllIsMadeSmall(t *testing.T) {
	h := full(t, 40)
	decay(h, 4488)
	bump(t, h, 20)
	wantTop(t, h, 20)
	for range 2 {
		bump(t, h, 39)
	}
	if s, _ := h.Score(39); s > 2 {
		t.Fatal("not made small:", s)
	}
	wantTop(t, h, 39)
	wantPop(t, h, 39)
	wantPop(t, h, 20)
	wantPop(t, h, 0)
}

// Decay changes the step alone, as long as it is not above 1e100.
func TestH4Decay(t *testing.T) {
	h := full(t, 3)
	bump(t, h, 1)
	want := 1.0
	for k := range 4489 {
		h.Decay()
		want = quotient(want, fade)
		wantFloat(t, fmt.Sprint("Step behind ", k), h.Step(), want)
	}
	wantScore(t, h, 1, 1)
	wantScore(t, h, 0, 0)
	wantInts(t, "Order", h.Order(), 1, 0, 2)
}

// The 4490th call makes all small: every score too, also of what does not stand in the heap.
func TestH4MakesSmall(t *testing.T) {
	h, m := newHeap(t, 3), newModel(3)
	push(t, h, 0)
	m.push(0)
	bump(t, h, 0)
	m.bump(0)
	bump(t, h, 2)
	m.bump(2)
	for k := range 4490 {
		wantInt(t, fmt.Sprint("so often made small behind ", k), m.smalls, 0)
		h.Decay()
		m.decay()
	}
	wantInt(t, "so often made small", m.smalls, 1)
	wantLike(t, "made small", h, m)
	wantScore(t, h, 0, tenth)
	wantScore(t, h, 1, 0)
	wantScore(t, h, 2, tenth)
	if s := h.Step(); s < 1.04 || s > 1.06 {
		t.Fatal("Step:", s)
	}
}

// Where there are no variables the step goes its way all the same.
func TestH4WithoutVariables(t *testing.T) {
	h, m := newHeap(t, 0), newModel(0)
	for range 10000 {
		h.Decay()
		m.decay()
		wantFloat(t, "Step", h.Step(), m.step)
	}
	wantInt(t, "so often made small", m.smalls, 2)
}

// Scores that come to be 0 are the same then: the lesser number comes first, though it came last ahead of that.
func TestH4ScoresThatComeToNothing(t *testing.T) {
	const n = 30
	h, m := full(t, n), newModel(n)
	for v := range n {
		m.push(v)
		for range v {
			bump(t, h, v)
			m.bump(v)
		}
	}
	wantTop(t, h, n-1)
	for m.smalls < 4 {
		h.Decay()
		m.decay()
	}
	wantScore(t, h, n-1, 0)
	wantLike(t, "behind four times", h, m)
	for v := range n {
		wantPop(t, h, v)
	}
}

// Numbers so small that they have few bits left are rounded as others are, and some of them are the same then.
func TestH4ScoresWithFewBits(t *testing.T) {
	const n = 40
	h, m := full(t, n), newModel(n)
	for v := range n {
		m.push(v)
	}
	for m.step < 2e76 { // four times made small it is less than half of the least float
		h.Decay()
		m.decay()
	}
	for v := range n {
		for range v {
			bump(t, h, v)
			m.bump(v)
		}
	}
	for m.smalls < 4 {
		h.Decay()
		m.decay()
	}
	wantLike(t, "few bits", h, m)
	same, apart := 0, 0
	for v := range n - 1 {
		switch {
		case m.scores[v+1] > m.scores[v]:
			apart++
		case m.scores[v] > 0:
			same++
		}
	}
	if same < 5 || apart < 5 {
		t.Fatal("so few scores are the same, or apart:", same, apart)
	}
	for _, v := range m.order() {
		wantPop(t, h, v)
	}
}

// Two scores one bit apart may be the same when they are made small: then the lesser number comes first.
func TestH4ScoresThatComeToBeTheSame(t *testing.T) {
	a := 3.3e49
	for a*tenth != math.Nextafter(a, 1e99)*tenth {
		a = math.Nextafter(a, 1e99)
	}
	h, m := full(t, 2), newModel(2)
	m.push(0)
	m.push(1)
	raiseTo(t, h, m, a, math.Nextafter(a, 1e99))
	wantInts(t, "one bit apart", h.Order(), 1, 0)
	c := h.Clone()
	for m.smalls < 1 {
		h.Decay()
		m.decay()
	}
	wantLike(t, "made small by Decay", h, m)
	wantInts(t, "made small by Decay", h.Order(), 0, 1)
	wantPop(t, h, 0)
	wantPop(t, h, 1)
	wantPop(t, c, 1)
}

// The same by Bump, of a variable that does not stand in the heap.
func TestH3ScoresThatComeToBeTheSame(t *testing.T) {
	a := 3.3e49
	for a*tenth != math.Nextafter(a, 1e99)*tenth {
		a = math.Nextafter(a, 1e99)
	}
	h, m := newHeap(t, 3), newModel(3)
	raiseTo(t, h, m, a, math.Nextafter(a, 1e99))
	for v := range 2 {
		push(t, h, v)
		m.push(v)
	}
	wantInts(t, "one bit apart", h.Order(), 1, 0)
	for m.step < 9e98 {
		h.Decay()
		m.decay()
	}
	for m.smalls < 1 {
		bump(t, h, 2)
		m.bump(2)
	}
	wantLike(t, "made small by Bump", h, m)
	wantPop(t, h, 0)
	wantPop(t, h, 1)
}

// Long rows of Bump and Decay, in all mixtures, to the last bit.
func TestH3H4LongRows(t *testing.T) {
	r := rand.New(rand.NewSource(34))
	for _, bumps := range []int{0, 1, 2, 10, 60} { // how many for ten of Decay
		h, m := full(t, 6), newModel(6)
		for v := range 6 {
			m.push(v)
		}
		for i := range 12000 {
			if r.Intn(10+bumps) < bumps {
				v := r.Intn(6)
				bump(t, h, v)
				m.bump(v)
			} else {
				h.Decay()
				m.decay()
			}
			if i%100 == 0 {
				wantLike(t, "a long row", h, m)
			}
		}
		wantLike(t, "a long row", h, m)
	}
}
