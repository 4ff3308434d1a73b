package heap

import (
	"math"
	"testing"
)

// No row of calls is known that comes to a step of just 1e100 (none was looked for: a hit among the floats would be rare): here it is set.

func TestH4AStepJustAtTheMost(t *testing.T) {
	just, tenth := 9.5e99, 1e-100 // divided by 0.95 the first one is 1e100
	for _, c := range []struct {
		step, want float64
	}{
		{math.Nextafter(just, 0), 9.999999999999998e99},
		{just, 1e100},
		{math.Nextafter(just, 1e100), 1.0000000000000002e100 * tenth},
		{1e100, 1.0526315789473684e100 * tenth},
	} {
		h, _ := New(2)
		h.Bump(0)
		h.step = c.step
		h.Decay()
		score := 1.0
		if c.want < 2 {
			score = 1e-100
		}
		if got, _ := h.Score(0); h.Step() != c.want || got != score {
			t.Errorf("a step of %v: %v behind Decay, not %v, and the score %v", c.step, h.Step(), c.want, got)
		}
	}
}

// A step of just 1e100 is added as any other: to nothing it makes 1e100, to that what is above it.
func TestH3BumpByAStepJustAtTheMost(t *testing.T) {
	h, _ := New(2)
	tenth := 1e-100
	h.step = 1e100
	h.Bump(1)
	if score, _ := h.Score(1); score != 1e100 || h.Step() != 1e100 {
		t.Error("at 1e100:", score, h.Step())
	}
	h.Bump(1)
	if score, _ := h.Score(1); score != 2e100*tenth || h.Step() != 1e100*tenth {
		t.Error("above 1e100:", score, h.Step())
	}
}

// Each thing stands where the list of places says, and behind the one above it.
func TestH2TheTreeStaysATree(t *testing.T) {
	const n = 200
	h, _ := New(n)
	next := uint32(7)
	draw := func(of int) int {
		next = next*1664525 + 1013904223
		return int(next>>8) % of
	}
	for range 20000 {
		switch v := draw(n); draw(12) {
		case 0, 1, 2, 3:
			h.Push(v)
		case 4, 5, 6:
			h.Pop()
		case 7:
			for range 50 {
				h.Decay()
			}
		default:
			h.Bump(v)
		}
		stand := 0
		for v, place := range h.queue.places {
			if place > 0 {
				stand++
				if h.queue.tree[place-1] != v {
					t.Fatal("it stands elsewhere:", v)
				}
			}
		}
		if stand != h.Len() {
			t.Fatal("so many stand there:", stand, h.Len())
		}
		for at := 1; at < h.Len(); at++ {
			if !h.queue.by.ahead(h.queue.tree[(at-1)/2], h.queue.tree[at]) {
				t.Fatal("one comes ahead of the one above it")
			}
		}
	}
}
