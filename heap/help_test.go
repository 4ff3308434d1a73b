package heap_test

import (
	"fmt"
	"math"
	"math/big"
	"math/rand"
	"slices"
	"testing"

	"fulcrum/api"
	"fulcrum/heap"
)

func wantErr(t *testing.T, what string, got, want api.Errno) {
	t.Helper()
	if got != want {
		t.Fatalf("%s: the error %d, not %d", what, got, want)
	}
}

func wantInt(t *testing.T, what string, got, want int) {
	t.Helper()
	if got != want {
		t.Fatalf("%s: %d, not %d", what, got, want)
	}
}

func wantInts(t *testing.T, what string, got []int, want ...int) {
	t.Helper()
	if !slices.Equal(got, want) {
		t.Fatalf("%s: %v, not %v", what, got, want)
	}
}

// wantFloat: to the last bit.
func wantFloat(t *testing.T, what string, got, want float64) {
	t.Helper()
	if math.Float64bits(got) != math.Float64bits(want) {
		t.Fatalf("%s: %v, not %v", what, got, want)
	}
}

func newHeap(t *testing.T, vars int) *heap.Heap {
	t.Helper()
	h, e := heap.New(vars)
	wantErr(t, fmt.Sprint("New of ", vars), e, api.OK)
	return h
}

// full is a heap of so many variables, all of which stand in it.
func full(t *testing.T, vars int) *heap.Heap {
	t.Helper()
	h := newHeap(t, vars)
	for v := range vars {
		push(t, h, v)
	}
	return h
}

func push(t *testing.T, h *heap.Heap, v int) {
	t.Helper()
	wantErr(t, fmt.Sprint("Push of ", v), h.Push(v), api.OK)
}

func bump(t *testing.T, h *heap.Heap, v int) {
	t.Helper()
	wantErr(t, fmt.Sprint("Bump of ", v), h.Bump(v), api.OK)
}

func decay(h *heap.Heap, times int) {
	for range times {
		h.Decay()
	}
}

func wantPop(t *testing.T, h *heap.Heap, want int) {
	t.Helper()
	v, e := h.Pop()
	wantErr(t, "Pop", e, api.OK)
	wantInt(t, "Pop", v, want)
}

func wantTop(t *testing.T, h *heap.Heap, want int) {
	t.Helper()
	v, e := h.Top()
	wantErr(t, "Top", e, api.OK)
	wantInt(t, "Top", v, want)
}

func wantScore(t *testing.T, h *heap.Heap, v int, want float64) {
	t.Helper()
	s, e := h.Score(v)
	wantErr(t, "Score", e, api.OK)
	wantFloat(t, fmt.Sprint("Score of ", v), s, want)
}

// far is ints that are no variable of a heap of that size.
func far(size int) []int {
	return []int{-1, -2, size, size + 1, size + 1000, -size - 1, math.MaxInt, math.MinInt, math.MaxInt32, math.MinInt32}
}

// The floats that the chapter names, and what they are exactly.
const (
	tenth = 1e-100
	fade  = 0.95
	most  = 1e100
)

func exact(f float64) *big.Rat {
	return new(big.Rat).SetFloat64(f)
}

// round is the nearest float, of two alike the even one.
func round(r *big.Rat) float64 {
	f, _ := r.Float64()
	return f
}

func sum(a, b float64) float64      { return round(new(big.Rat).Add(exact(a), exact(b))) }
func product(a, b float64) float64  { return round(new(big.Rat).Mul(exact(a), exact(b))) }
func quotient(a, b float64) float64 { return round(new(big.Rat).Quo(exact(a), exact(b))) }

// model is a heap as the chapter says it: lists alone, and numbers that are worked out exactly and then rounded.
type model struct {
	scores []float64
	stands []bool
	step   float64
	smalls int // how often all was made small
}

func newModel(vars int) *model {
	return &model{scores: make([]float64, vars), stands: make([]bool, vars), step: 1}
}

func (m *model) clone() *model {
	return &model{slices.Clone(m.scores), slices.Clone(m.stands), m.step, m.smalls}
}

func (m *model) order() []int {
	var out []int
	for v, stands := range m.stands {
		if stands {
			out = append(out, v)
		}
	}
	slices.SortStableFunc(out, func(a, b int) int { // v rises already
		switch {
		case m.scores[a] > m.scores[b]:
			return -1
		case m.scores[a] < m.scores[b]:
			return 1
		}
		return 0
	})
	return out
}

func (m *model) has(v int) bool { return v >= 0 && v < len(m.stands) && m.stands[v] }

func (m *model) push(v int) api.Errno {
	switch {
	case v < 0 || v >= len(m.scores):
		return api.ErrVar
	case m.stands[v]:
		return api.ErrHeap
	}
	m.stands[v] = true
	return api.OK
}

func (m *model) top() (int, api.Errno) {
	l := m.order()
	if len(l) == 0 {
		return 0, api.ErrHeap
	}
	return l[0], api.OK
}

func (m *model) pop() (int, api.Errno) {
	v, e := m.top()
	if e == api.OK {
		m.stands[v] = false
	}
	return v, e
}

func (m *model) bump(v int) api.Errno {
	if v < 0 || v >= len(m.scores) {
		return api.ErrVar
	}
	m.scores[v] = sum(m.scores[v], m.step)
	if m.scores[v] > most {
		m.makeSmall()
	}
	return api.OK
}

func (m *model) decay() {
	m.step = quotient(m.step, fade)
	if m.step > most {
		m.makeSmall()
	}
}

func (m *model) makeSmall() {
	for v := range m.scores {
		m.scores[v] = product(m.scores[v], tenth)
	}
	m.step = product(m.step, tenth)
	m.smalls++
}

// wantLike: all that a heap tells is what the model is.
func wantLike(t *testing.T, what string, h *heap.Heap, m *model) {
	t.Helper()
	order := m.order()
	wantInt(t, what+": Size", h.Size(), len(m.scores))
	wantInt(t, what+": Len", h.Len(), len(order))
	wantFloat(t, what+": Step", h.Step(), m.step)
	for v, want := range m.scores {
		s, e := h.Score(v)
		wantErr(t, what+": Score", e, api.OK)
		wantFloat(t, fmt.Sprint(what, ": Score of ", v), s, want)
		if h.Has(v) != m.stands[v] {
			t.Fatalf("%s: Has of %d: %v", what, v, h.Has(v))
		}
	}
	wantInts(t, what+": Order", h.Order(), order...)
	v, e := h.Top()
	w, f := m.top()
	wantErr(t, what+": Top", e, f)
	wantInt(t, what+": Top", v, w)
}

// step is one call of a heap and of its model, be it one that answers an error.
func step(t *testing.T, r *rand.Rand, h *heap.Heap, m *model) {
	t.Helper()
	v := r.Intn(len(m.scores)+2) - 1
	switch r.Intn(9) {
	case 0, 1, 2:
		wantErr(t, "Push", h.Push(v), m.push(v))
	case 3, 4, 5:
		wantErr(t, "Bump", h.Bump(v), m.bump(v))
	case 6:
		a, e := h.Pop()
		b, f := m.pop()
		wantErr(t, "Pop", e, f)
		wantInt(t, "Pop", a, b)
	case 7:
		h.Decay()
		m.decay()
	case 8: // a way to great numbers, and to small ones
		for range r.Intn(900) {
			h.Decay()
			m.decay()
		}
	}
}

// busy is a heap behind so many calls, and its model.
func busy(t *testing.T, r *rand.Rand, calls int) (*heap.Heap, *model) {
	t.Helper()
	vars := 1 + r.Intn(12)
	h, m := newHeap(t, vars), newModel(vars)
	for range calls {
		step(t, r, h, m)
	}
	return h, m
}

// climb is how often Decay was called ahead of each Bump, rising, so that a variable without a score comes to this one; nil, if that was not found. The step stays so small that one more Decay makes nothing small.
func climb(target float64) []int {
	steps := []float64{1}
	for s := 1 / fade; s <= most/2; s /= fade {
		steps = append(steps, s)
	}
	for variant := range 1 << 14 {
		var picks []int
		rest, choice := target, variant
		for at := len(steps) - 1; at >= 0; at-- {
			if steps[at] > rest || rest < target*1e-18 {
				continue
			}
			at = max(at-choice%2, 0) // not always the greatest one, so that the roundings differ
			choice /= 2
			picks = append(picks, at)
			rest -= steps[at]
			at++ // the same one may be taken again
		}
		slices.Sort(picks)
		score := 0.0
		for _, k := range picks {
			score += steps[k]
		}
		if score == target {
			return picks
		}
	}
	return nil
}

// raiseTo lets variables, the first ones of a new heap, come to these scores: what is done is Bump, and Decay up to the last Bump.
func raiseTo(t *testing.T, h *heap.Heap, m *model, targets ...float64) {
	t.Helper()
	var ways [][]int
	last := 0
	for _, target := range targets {
		way := climb(target)
		if way == nil {
			t.Fatalf("no way to %v", target)
		}
		ways = append(ways, way)
		last = max(last, way[len(way)-1])
	}
	for k := range last + 1 {
		for v, way := range ways {
			for range count(way, k) {
				bump(t, h, v)
				wantErr(t, "Bump", m.bump(v), api.OK)
			}
		}
		if k < last {
			h.Decay()
			m.decay()
		}
	}
}

func count(l []int, x int) int {
	n := 0
	for _, y := range l {
		if x == y {
			n++
		}
	}
	return n
}
