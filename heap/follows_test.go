package heap_test

import (
	"math"
	"math/rand"
	"slices"
	"testing"

	"fulcrum/api"
	"fulcrum/heap"
)

// popped is all that Pop takes out, one behind the other.
func popped(t *testing.T, h *heap.Heap) []int {
	t.Helper()
	var out []int
	for {
		v, e := h.Pop()
		if e == api.ErrHeap {
			return out
		}
		wantErr(t, "Pop", e, api.OK)
		out = append(out, v)
		if len(out) > h.Size() {
			t.Fatal("Pop does not come to an end")
		}
	}
}

func TestH6PopIsOrder(t *testing.T) {
	r := rand.New(rand.NewSource(61))
	for range 150 {
		h, m := busy(t, r, 20+r.Intn(80))
		want := h.Order()
		got := popped(t, h)
		wantInts(t, "what Pop took out", got, want...)
		slices.Sort(got)
		var pushed []int
		for v := range m.stands {
			if m.stands[v] {
				pushed = append(pushed, v)
			}
		}
		wantInts(t, "each that was pushed, once", got, pushed...)
		wantInt(t, "Len", h.Len(), 0)
		for v := range m.stands {
			push(t, h, v) // none stands there any more
		}
	}
}

// The order is what the chapter says, whatever scores Score tells.
func TestH6OrderIsByScores(t *testing.T) {
	r := rand.New(rand.NewSource(62))
	for range 150 {
		h, _ := busy(t, r, 60)
		l := h.Order()
		for i := range len(l) - 1 {
			a, _ := h.Score(l[i])
			b, _ := h.Score(l[i+1])
			if a < b || a == b && l[i] > l[i+1] {
				t.Fatalf("%d (%v) ahead of %d (%v)", l[i], a, l[i+1], b)
			}
		}
	}
}

// wantNumbers: no score and no step is below 0, infinite or not a number; above 1e100 is none either.
func wantNumbers(t *testing.T, h *heap.Heap) {
	t.Helper()
	all := []float64{h.Step()}
	for v := range h.Size() {
		s, e := h.Score(v)
		wantErr(t, "Score", e, api.OK)
		all = append(all, s)
	}
	for _, f := range all {
		if !(f >= 0 && f <= most) || math.Signbit(f) {
			t.Fatalf("a score or a step of %v", f)
		}
	}
	if h.Step() == 0 {
		t.Fatal("the step came to nothing")
	}
}

func TestH6NumbersStayNumbers(t *testing.T) {
	r := rand.New(rand.NewSource(63))
	for _, decays := range []int{0, 1, 10, 50, 99, 100} { // of a hundred calls
		h := full(t, 4)
		for i := range 200000 {
			if r.Intn(100) < decays {
				h.Decay()
			} else {
				bump(t, h, r.Intn(4))
			}
			if i%20 == 0 {
				wantNumbers(t, h)
			}
		}
		wantNumbers(t, h)
		wantInt(t, "Len", len(popped(t, h)), 4)
	}
}

// Bump again and again where the step is near the greatest that may be, and where it no longer counts.
func TestH6BumpAtTheEnds(t *testing.T) {
	for _, decays := range []int{0, 3700, 3750, 3800, 4200, 4489} {
		h := full(t, 3)
		decay(h, decays)
		for range 100000 {
			bump(t, h, 1)
			wantNumbers(t, h)
		}
		wantInts(t, "Order", h.Order(), 1, 0, 2)
	}
}

func TestH6PushAndPopChangeNoScore(t *testing.T) {
	r := rand.New(rand.NewSource(64))
	for range 100 {
		h, m := busy(t, r, 60)
		for range 60 {
			if v := r.Intn(len(m.scores)); r.Intn(2) == 0 {
				h.Push(v)
			} else {
				h.Pop()
			}
			h.Top()
			h.Order()
			for v, want := range m.scores {
				wantScore(t, h, v, want)
			}
			wantFloat(t, "Step", h.Step(), m.step)
		}
	}
}
