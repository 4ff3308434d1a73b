package heap

import "slices"

// order says of two things that are not one which comes ahead of the other.
type order[T any] interface {
	ahead(a, b T) bool
}

// queue keeps things by an order, the first one at hand, each thing once. They are counted from 0 on, so that a list can tell where each stands.
// Where a thing's place in the order changes the queue has to be told: by raise, or by rebuild.
type queue[T ~int, O order[T]] struct {
	by     O
	tree   []T   // the thing at i comes ahead of those at 2i+1 and 2i+2
	places []int // of each thing 1 and where it stands in tree; 0, if it does not
}

// has tells whether a thing stands in the queue.
func (q *queue[T, O]) has(x T) bool {
	return q.places[x] > 0
}

// put lets a thing stand at a place of the tree.
func (q *queue[T, O]) put(at int, x T) {
	q.tree[at] = x
	q.places[x] = at + 1
}

// push lets one thing more stand in the queue.
func (q *queue[T, O]) push(x T) {
	q.tree = append(q.tree, x)
	q.rise(len(q.tree)-1, x)
}

// pop takes the first thing out of a queue that is not empty.
func (q *queue[T, O]) pop() T {
	first, end := q.tree[0], len(q.tree)-1
	last := q.tree[end]
	q.tree = q.tree[:end]
	if end > 0 {
		q.sink(0, last)
	}
	q.places[first] = 0
	return first
}

// raise is told that a thing, which may stand in the queue, comes ahead of more than it did.
func (q *queue[T, O]) raise(x T) {
	if q.has(x) {
		q.rise(q.places[x]-1, x)
	}
}

// rebuild is told that the order of all things may have changed.
func (q *queue[T, O]) rebuild() {
	for at := len(q.tree)/2 - 1; at >= 0; at-- {
		q.sink(at, q.tree[at])
	}
}

// rise puts a thing at a place, or above it, where all on the way come behind it.
func (q *queue[T, O]) rise(at int, x T) {
	for at > 0 {
		up := (at - 1) / 2
		if q.by.ahead(q.tree[up], x) {
			break
		}
		q.put(at, q.tree[up])
		at = up
	}
	q.put(at, x)
}

// sink puts a thing at a place, or below it, where all on the way come ahead of it.
func (q *queue[T, O]) sink(at int, x T) {
	for down := 2*at + 1; down < len(q.tree); down = 2*at + 1 {
		if down+1 < len(q.tree) && q.by.ahead(q.tree[down+1], q.tree[down]) {
			down++
		}
		if q.by.ahead(x, q.tree[down]) {
			break
		}
		q.put(at, q.tree[down])
		at = down
	}
	q.put(at, x)
}

// all is what stands in the queue, by the order.
func (q *queue[T, O]) all() []T {
	out := slices.Clone(q.tree)
	slices.SortFunc(out, q.compare)
	return out
}

// compare is the order as sorting asks for it.
func (q *queue[T, O]) compare(a, b T) int {
	switch {
	case a == b:
		return 0
	case q.by.ahead(a, b):
		return -1
	}
	return 1
}

// clone is another queue of the same things, by an order of its own.
func (q *queue[T, O]) clone(by O) queue[T, O] {
	return queue[T, O]{by: by, tree: slices.Clone(q.tree), places: slices.Clone(q.places)}
}
