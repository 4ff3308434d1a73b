package heap_test

import (
	"math/rand"
	"testing"

	"fulcrum/api"
	"fulcrum/heap"
)

// A clone is as the heap is; then each goes its own way.
func TestH5Clone(t *testing.T) {
	r := rand.New(rand.NewSource(51))
	for range 120 {
		h, m := busy(t, r, 10+r.Intn(60))
		c, n := h.Clone(), m.clone()
		wantLike(t, "Clone", c, n)
		wantLike(t, "what was cloned", h, m)
		for range 50 {
			if r.Intn(2) == 0 {
				step(t, r, h, m)
			} else {
				step(t, r, c, n)
			}
			wantLike(t, "what was cloned", h, m)
			wantLike(t, "Clone", c, n)
		}
	}
}

// Each call that changes something, of the one and of the other.
func TestH5EachCall(t *testing.T) {
	calls := []func(h *heap.Heap){
		func(h *heap.Heap) { h.Push(1) },
		func(h *heap.Heap) { h.Pop() },
		func(h *heap.Heap) { h.Bump(2) },
		func(h *heap.Heap) { h.Bump(1) },
		func(h *heap.Heap) { h.Decay() },
		func(h *heap.Heap) { decay(h, 4490) },
		func(h *heap.Heap) {
			for v, e := h.Pop(); e == api.OK; v, e = h.Pop() {
				h.Bump(v)
			}
		},
	}
	for i, call := range calls {
		for _, ofClone := range []bool{false, true} {
			h, m := newHeap(t, 4), newModel(4)
			for _, v := range []int{3, 0, 2} {
				push(t, h, v)
				m.push(v)
				bump(t, h, v)
				m.bump(v)
			}
			c := h.Clone()
			if ofClone {
				h, c = c, h
			}
			call(h)
			wantLike(t, "the other one", c, m)
			if i != 3 && h.Step() == c.Step() && h.Len() == c.Len() {
				if s, _ := h.Score(2); s == 1 {
					t.Fatal("the call changed nothing")
				}
			}
			push(t, c, 1)
			wantInts(t, "the other one's Order", c.Order(), 0, 2, 3, 1)
		}
	}
}

func TestH5CloneOfNothing(t *testing.T) {
	c := newHeap(t, 0).Clone()
	wantLike(t, "Clone", c, newModel(0))
	c = newHeap(t, 2).Clone()
	wantLike(t, "Clone", c, newModel(2))
	push(t, c, 1)
	wantTop(t, c, 1)
}

// A clone has the step, and the scores of what does not stand in it.
func TestH5WhatACloneKnows(t *testing.T) {
	h := newHeap(t, 2)
	h.Decay()
	bump(t, h, 1)
	c := h.Clone()
	wantFloat(t, "Step", c.Step(), 1.0526315789473684)
	wantScore(t, c, 1, 1.0526315789473684)
	push(t, c, 0)
	push(t, c, 1)
	wantInts(t, "Order", c.Order(), 1, 0)
	wantInt(t, "Len", h.Len(), 0)
}

// Clones of clones; each stays as it was while the next one goes on.
func TestH5Clones(t *testing.T) {
	r := rand.New(rand.NewSource(52))
	h, m := busy(t, r, 20)
	var clones []*heap.Heap
	var models []*model
	for range 80 {
		step(t, r, h, m)
		clones, models = append(clones, h), append(models, m)
		h, m = h.Clone(), m.clone()
	}
	for i := range clones {
		wantLike(t, "a clone", clones[i], models[i])
	}
}
