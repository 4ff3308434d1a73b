package heap_test

import (
	"fmt"
	"math/rand"
	"slices"
	"sync"
	"testing"

	"fulcrum/api"
	"fulcrum/heap"
)

// The rules R1 to R4 of DOC.md in this layer.

// nobodys is heaps that neither New nor Clone gave.
func nobodys() []*heap.Heap {
	beside, _ := heap.New(-1)
	above, _ := heap.New(api.MaxClauses + 1)
	return []*heap.Heap{nil, {}, new(heap.Heap), beside, above}
}

// A panic would end the test; so would a call that does not end.
func TestR1AnyArguments(t *testing.T) {
	for _, size := range append(far(2), 0, 1, 2, 3) {
		made, _ := heap.New(size)
		for _, h := range append(nobodys(), made) {
			for _, v := range append(far(2), 0, 1, 2) {
				for range 2 {
					h.Has(v)
					h.Push(v)
					h.Top()
					h.Score(v)
					h.Bump(v)
					h.Decay()
					h.Step()
					h.Order()
					h.Size()
					h.Len()
					h.Clone().Push(v)
					h.Clone().Clone().Bump(v)
					if v%2 == 0 {
						h.Pop()
					}
				}
			}
			decay(h, 5000)
		}
	}
}

// A heap that nobody made has no variables, whatever is called, and so has its clone.
func TestR1AHeapThatNobodyMade(t *testing.T) {
	for _, h := range nobodys() {
		for range 3 {
			for _, one := range []*heap.Heap{h, h.Clone(), h.Clone().Clone()} {
				wantNothing(t, one)
			}
			decay(h, 10000)
			h.Clone().Decay()
		}
	}
}

func wantNothing(t *testing.T, h *heap.Heap) {
	t.Helper()
	wantInt(t, "Size", h.Size(), 0)
	wantInt(t, "Len", h.Len(), 0)
	wantInts(t, "Order", h.Order())
	wantFloat(t, "Step", h.Step(), 0)
	for _, v := range append(far(1), 0, 1) {
		if h.Has(v) {
			t.Fatal("Has", v)
		}
		wantErr(t, "Push", h.Push(v), api.ErrVar)
		wantErr(t, "Bump", h.Bump(v), api.ErrVar)
		s, e := h.Score(v)
		wantErr(t, "Score", e, api.ErrVar)
		wantFloat(t, "Score", s, 0)
	}
	v, e := h.Top()
	wantErr(t, "Top", e, api.ErrHeap)
	wantInt(t, "Top", v, 0)
	v, e = h.Pop()
	wantErr(t, "Pop", e, api.ErrHeap)
	wantInt(t, "Pop", v, 0)
}

// Beside an error there is nothing else, and nothing has changed.
func TestR2NothingChangesBesideAnError(t *testing.T) {
	r := rand.New(rand.NewSource(2))
	for range 60 {
		h, m := busy(t, r, 40)
		for _, v := range far(len(m.scores)) {
			wantErr(t, "Push", h.Push(v), api.ErrVar)
			wantErr(t, "Bump", h.Bump(v), api.ErrVar)
			s, e := h.Score(v)
			wantErr(t, "Score", e, api.ErrVar)
			wantFloat(t, "Score beside an error", s, 0)
		}
		for _, v := range m.order() {
			wantErr(t, "Push", h.Push(v), api.ErrHeap)
		}
		wantLike(t, "behind errors", h, m)
		for range popped(t, h) {
			m.pop()
		}
		for range 3 {
			for _, call := range []func() (int, api.Errno){h.Top, h.Pop} {
				v, e := call()
				wantErr(t, "of a heap in which none stands", e, api.ErrHeap)
				wantInt(t, "beside an error", v, 0)
			}
		}
		wantLike(t, "behind errors", h, m)
	}
}

// scribble writes over a list, to the end of the room behind it.
func scribble(l []int) {
	for i := range l[:cap(l)] {
		l[:cap(l)][i] = -77
	}
}

// What Order tells is new memory, its spare room too: what is done to it changes neither the heap nor another answer.
func TestR3OrderIsNewMemory(t *testing.T) {
	r := rand.New(rand.NewSource(3))
	for range 100 {
		h, m := busy(t, r, 60)
		first, second, c := h.Order(), h.Order(), h.Clone()
		want := m.order()
		scribble(first)
		wantInts(t, "another answer", second, want...)
		wantLike(t, "behind what was done to an answer", h, m)
		wantLike(t, "the clone", c, m)
		n := m.clone()
		for range 30 {
			step(t, r, h, m)
		}
		wantInts(t, "an answer from ahead", second, want...)
		if len(first) > 0 && first[0] != -77 {
			t.Fatal("the heap writes into what it told")
		}
		scribble(second)
		wantLike(t, "gone on with", h, m)
		wantLike(t, "the clone", c, n)
	}
}

// What is told is not what Push writes into, where an answer has spare room either.
func TestR3TheRoomBehindOrder(t *testing.T) {
	h := newHeap(t, 100)
	for v := range 100 {
		l := h.Order()
		l = append(l, -77)
		push(t, h, v)
		if l[len(l)-1] != -77 || slices.Contains(h.Order(), -77) {
			t.Fatal("an answer and the heap share memory")
		}
	}
}

// Two heaps do not disturb one another.
func TestR4HeapsKnowNothingOfOneAnother(t *testing.T) {
	r := rand.New(rand.NewSource(4))
	for range 40 {
		a, m := busy(t, r, 30)
		b, n := busy(t, r, 30)
		c, o := a.Clone(), m.clone()
		for range 60 {
			switch r.Intn(3) {
			case 0:
				step(t, r, a, m)
			case 1:
				step(t, r, b, n)
			case 2:
				step(t, r, c, o)
			}
		}
		wantLike(t, "one", a, m)
		wantLike(t, "another one", b, n)
		wantLike(t, "a clone", c, o)
	}
}

// The same calls give the same answers, side by side too.
func TestR4TheSameCallsGiveTheSameAnswers(t *testing.T) {
	const many = 8
	var told [many]string
	var all sync.WaitGroup
	for i := range many {
		all.Go(func() {
			r := rand.New(rand.NewSource(44))
			h, _ := heap.New(9)
			for range 300 {
				h.Push(r.Intn(9))
				h.Bump(r.Intn(9))
				for range r.Intn(60) {
					h.Decay()
				}
				if r.Intn(3) == 0 {
					v, e := h.Pop()
					told[i] += fmt.Sprint(v, e)
				}
				told[i] += fmt.Sprint(h.Order(), h.Step())
			}
		})
	}
	all.Wait()
	for _, text := range told {
		if text != told[0] {
			t.Fatal("the same calls, other answers")
		}
	}
}

// What only asks writes nothing: one heap may be asked side by side.
func TestR4AskedSideBySide(t *testing.T) {
	h, m := busy(t, rand.New(rand.NewSource(45)), 80)
	var all sync.WaitGroup
	for range 8 {
		all.Go(func() {
			for range 50 {
				h.Order()
				h.Top()
				h.Has(0)
				h.Score(0)
				h.Clone().Decay()
			}
		})
	}
	all.Wait()
	wantLike(t, "asked side by side", h, m)
}
