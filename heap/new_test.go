package heap_test

import (
	"fmt"
	"math"
	"math/rand"
	"slices"
	"testing"

	"fulcrum/api"
	"fulcrum/heap"
)

func TestH1New(t *testing.T) {
	for _, vars := range []int{0, 1, 2, 3, 17, 1000} {
		wantLike(t, fmt.Sprint("New of ", vars), newHeap(t, vars), newModel(vars))
	}
}

func TestH1NewOfTooFewOrTooMany(t *testing.T) {
	for _, c := range []struct {
		vars int
		want api.Errno
	}{
		{-1, api.ErrArg}, {-2, api.ErrArg}, {-api.MaxClauses - 1, api.ErrArg}, {math.MinInt, api.ErrArg},
		{api.MaxClauses + 1, api.ErrFull}, {api.MaxClauses * 2, api.ErrFull}, {math.MaxInt32 + 1, api.ErrFull}, {math.MaxInt, api.ErrFull},
	} {
		h, e := heap.New(c.vars)
		wantErr(t, fmt.Sprint("New of ", c.vars), e, c.want)
		if h != nil {
			t.Errorf("New of %d: a heap beside an error", c.vars)
		}
	}
}

// As many variables as there may be: each serves as the others do.
func TestH1NewOfAsManyAsMayBe(t *testing.T) {
	h := newHeap(t, api.MaxClauses)
	last := api.MaxClauses - 1
	wantInt(t, "Size", h.Size(), api.MaxClauses)
	wantInt(t, "Len", h.Len(), 0)
	wantFloat(t, "Step", h.Step(), 1)
	for v := range api.MaxClauses {
		if s, e := h.Score(v); h.Has(v) || s != 0 || e != api.OK {
			t.Fatalf("%d: it stands there, or has the score %v (%d)", v, s, e)
		}
	}
	push(t, h, last)
	push(t, h, 0)
	wantTop(t, h, 0)
	bump(t, h, last)
	wantInts(t, "Order", h.Order(), last, 0)
	wantErr(t, "Push", h.Push(api.MaxClauses), api.ErrVar)
	wantErr(t, "Bump", h.Bump(api.MaxClauses), api.ErrVar)
}

// All that may stand in a heap, by many scores, come out by the order; and a making small goes over all of them.
func TestH2AsManyAsMayStandThere(t *testing.T) {
	r := rand.New(rand.NewSource(12))
	h, scores := newHeap(t, api.MaxClauses), make([]float64, api.MaxClauses)
	for v := range api.MaxClauses {
		wantErr(t, "Push", h.Push(v), api.OK)
		for range r.Intn(3) {
			w := r.Intn(api.MaxClauses)
			wantErr(t, "Bump", h.Bump(w), api.OK)
			scores[w] += h.Step()
		}
		if v%1000 == 0 {
			h.Decay()
		}
	}
	decay(h, 4490)
	want := make([]int, api.MaxClauses)
	for v := range want {
		want[v] = v
		scores[v] *= tenth
		if s, _ := h.Score(v); s != scores[v] {
			t.Fatalf("Score of %d: %v, not %v", v, s, scores[v])
		}
	}
	slices.SortStableFunc(want, func(a, b int) int {
		switch {
		case scores[a] > scores[b]:
			return -1
		case scores[a] < scores[b]:
			return 1
		}
		return 0
	})
	if !slices.Equal(h.Order(), want) {
		t.Fatal("Order is another one")
	}
	for i := range want {
		wantPop(t, h, want[i])
	}
	wantInt(t, "Len", h.Len(), 0)
}

func TestH1SizeLenHas(t *testing.T) {
	h := newHeap(t, 4)
	for i, v := range []int{2, 0, 3} {
		wantInt(t, "Len", h.Len(), i)
		if h.Has(v) {
			t.Fatalf("%d stands there ahead of Push", v)
		}
		push(t, h, v)
		if !h.Has(v) || h.Has(1) {
			t.Fatal("what stands there is not what was pushed")
		}
	}
	wantInt(t, "Size", h.Size(), 4)
	wantInt(t, "Len", h.Len(), 3)
	wantPop(t, h, 0)
	if h.Has(0) || !h.Has(2) || !h.Has(3) {
		t.Fatal("Pop took another one out, or none")
	}
	wantInt(t, "Size", h.Size(), 4)
	wantInt(t, "Len", h.Len(), 2)
	for _, v := range far(4) {
		if h.Has(v) {
			t.Fatalf("%d is no variable, and stands there", v)
		}
	}
}
