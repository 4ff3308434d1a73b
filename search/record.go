package search

import "fulcrum/api"

// record is what was done, step by step.
type record struct {
	steps []api.Step
}

// write puts a step behind the others: its place.
func (r *record) write(kind int, c api.Clause, by []int) int {
	r.steps = append(r.steps, api.Step{Kind: kind, Clause: copied(c), By: copied(by)})
	return len(r.steps) - 1
}

// copies is all steps in new memory.
func (r *record) copies() []api.Step {
	out := make([]api.Step, len(r.steps))
	for i, step := range r.steps {
		out[i] = api.Step{Kind: step.Kind, Clause: copied(step.Clause), By: copied(step.By)}
	}
	return out
}

// copied is the same numbers in new memory, be there none: a copy by append would then be a piece of what it was given.
func copied[L ~[]int](l L) L {
	out := make(L, len(l))
	copy(out, l)
	return out
}
