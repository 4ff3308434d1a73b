package heap_test

import (
	"fmt"
	"math/rand"
	"slices"
	"testing"

	"fulcrum/api"
)

func TestH2Push(t *testing.T) {
	h := newHeap(t, 3)
	push(t, h, 1)
	wantErr(t, "Push of what stands there", h.Push(1), api.ErrHeap)
	for _, v := range far(3) {
		wantErr(t, fmt.Sprint("Push of ", v), h.Push(v), api.ErrVar)
	}
	wantInts(t, "Order", h.Order(), 1)
	wantPop(t, h, 1)
	push(t, h, 1) // it stood there, and does no more
	wantErr(t, "Push of what stands there", h.Push(1), api.ErrHeap)
	none := newHeap(t, 0)
	wantErr(t, "Push where there are no variables", none.Push(0), api.ErrVar)
}

// A variable that is wrong is told as such, also where none stands in the heap.
func TestH2NoneStandsThere(t *testing.T) {
	h := newHeap(t, 2)
	bump(t, h, 1)
	for range 2 {
		for name, call := range map[string]func() (int, api.Errno){"Top": h.Top, "Pop": h.Pop} {
			v, e := call()
			wantErr(t, name, e, api.ErrHeap)
			wantInt(t, name, v, 0)
		}
		wantInts(t, "Order", h.Order())
		push(t, h, 1)
		wantPop(t, h, 1)
	}
	wantErr(t, "Push", h.Push(-1), api.ErrVar)
	wantErr(t, "Push", h.Push(2), api.ErrVar)
}

func TestH2TopTakesNothingOut(t *testing.T) {
	h := full(t, 3)
	bump(t, h, 1)
	for range 3 {
		wantTop(t, h, 1)
		wantInts(t, "Order", h.Order(), 1, 0, 2)
		wantInt(t, "Len", h.Len(), 3)
	}
}

// Of scores that are the same the lesser number comes first, in whichever order they were pushed and bumped.
func TestH2TheSameScores(t *testing.T) {
	r := rand.New(rand.NewSource(21))
	for range 200 {
		n := 1 + r.Intn(20)
		h, m := newHeap(t, n), newModel(n)
		for _, v := range r.Perm(n) {
			push(t, h, v)
			m.push(v)
		}
		wantLike(t, "no scores", h, m)
		for _, v := range r.Perm(n) {
			for range v % 3 { // three scores in all
				bump(t, h, v)
				m.bump(v)
			}
		}
		wantLike(t, "scores that are the same", h, m)
		for _, v := range m.order() {
			wantTop(t, h, v)
			wantPop(t, h, v)
		}
		_, e := h.Pop()
		wantErr(t, "Pop", e, api.ErrHeap)
	}
}

// Every way to push and to bump a few variables.
func TestH2AllOfAFewVariables(t *testing.T) {
	const n = 4
	for code := range 1 << (2 * n) { // how often each is bumped
		for stands := range 1 << n {
			h, m := newHeap(t, n), newModel(n)
			for v := n - 1; v >= 0; v-- {
				if stands>>v&1 == 1 {
					push(t, h, v)
					m.push(v)
				}
			}
			for v := range n {
				for range code >> (2 * v) & 3 {
					bump(t, h, v)
					m.bump(v)
				}
			}
			wantLike(t, fmt.Sprint(code, " ", stands), h, m)
		}
	}
}

// A variable that is bumped comes ahead of others, from every place of a great heap.
func TestH2BumpMovesUp(t *testing.T) {
	const n = 70
	for v := range n {
		h := full(t, n)
		bump(t, h, v)
		wantTop(t, h, v)
		want := []int{v}
		for w := range n {
			if w != v {
				want = append(want, w)
			}
		}
		wantInts(t, "Order", h.Order(), want...)
		for _, w := range want {
			wantPop(t, h, w)
		}
	}
}

// Order tells those alone that stand there, though others have greater scores.
func TestH2OrderOfThoseThatStandThere(t *testing.T) {
	h := newHeap(t, 6)
	for v := range 6 {
		for range v {
			bump(t, h, v)
		}
	}
	push(t, h, 1)
	push(t, h, 3)
	push(t, h, 2)
	wantInts(t, "Order", h.Order(), 3, 2, 1)
	push(t, h, 5)
	wantInts(t, "Order", h.Order(), 5, 3, 2, 1)
	wantPop(t, h, 5)
	wantInts(t, "Order", h.Order(), 3, 2, 1)
}

// Long rows of all calls, held against a model that sorts.
func TestH2Walks(t *testing.T) {
	r := rand.New(rand.NewSource(22))
	smalls := 0
	for range 150 {
		n := 1 + r.Intn(25)
		h, m := newHeap(t, n), newModel(n)
		for range 120 {
			step(t, r, h, m)
			wantLike(t, "a walk", h, m)
		}
		smalls += m.smalls
		for _, v := range m.order() {
			wantPop(t, h, v)
		}
	}
	if smalls < 100 {
		t.Fatal("all was made small so seldom:", smalls)
	}
}

// Push in the midst of Pop.
func TestH2PushAndPopByTurns(t *testing.T) {
	r := rand.New(rand.NewSource(23))
	const n = 300
	h, m := newHeap(t, n), newModel(n)
	for range n {
		v := r.Intn(n)
		for range r.Intn(5) {
			bump(t, h, v)
			m.bump(v)
		}
	}
	for range 5000 {
		if v := r.Intn(n); r.Intn(5) < 3 {
			wantErr(t, "Push", h.Push(v), m.push(v))
		} else {
			a, e := h.Pop()
			b, f := m.pop()
			wantErr(t, "Pop", e, f)
			wantInt(t, "Pop", a, b)
		}
	}
	if !slices.Equal(h.Order(), m.order()) {
		t.Fatal("Order is another one")
	}
}
