package heap_test

import (
	"testing"

	"fulcrum/api"
	"fulcrum/heap"
)

// The chapter's examples, by their numbers.

func TestExample1(t *testing.T) {
	h := full(t, 3)
	wantTop(t, h, 0)
	bump(t, h, 2)
	wantInts(t, "Order", h.Order(), 2, 0, 1)
	h.Decay()
	bump(t, h, 1)
	wantScore(t, h, 1, 1.0526315789473684)
	wantPop(t, h, 1)
	wantPop(t, h, 2)
	wantPop(t, h, 0)
	_, e := h.Pop()
	wantErr(t, "Pop", e, api.ErrHeap)
}

func TestExample2(t *testing.T) {
	h := newHeap(t, 3)
	push(t, h, 0)
	wantErr(t, "Push", h.Push(0), api.ErrHeap)
	wantErr(t, "Push", h.Push(3), api.ErrVar)
	if h.Has(-1) {
		t.Error("Has of -1")
	}
	_, e := heap.New(-1)
	wantErr(t, "New", e, api.ErrArg)
}

func TestExample3(t *testing.T) {
	h := newHeap(t, 3)
	decay(h, 4489)
	if s := h.Step(); s < 9.965e99 || s > 9.975e99 {
		t.Error("Step:", s)
	}
	h.Decay()
	if s := h.Step(); s < 1.04955 || s > 1.04965 {
		t.Error("Step:", s)
	}
}
