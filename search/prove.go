package search

import (
	"iter"
	"slices"

	"trestle/api"
	"trestle/hall"
)

// none is the kind of what is told at a node to which no step applies: everybody sits there, in a right plan below the bound.
const none api.StepKind = 0

// Tree returns the size of the plain tree.
func Tree(p api.Problem) (int, api.Errno) {
	if e := checkSmall(p); e != api.OK {
		return 0, e
	}
	seats := hall.Count(p.Tables)
	size, nodes := 1, 1
	for k := range p.Guests {
		nodes *= seats - k
		size += nodes
	}
	return size, api.OK
}

// Prove returns a proof that every right plan costs at least a bound, or that there is none.
func Prove(p api.Problem, bound int) ([]api.Step, api.Errno) {
	q, e := smallQuestOf(p)
	if e != api.OK {
		return nil, e
	}
	return q.prove(bound)
}

// Certify returns the best plan, with a proof that none costs less.
func Certify(p api.Problem) (api.Ranked, []api.Step, api.Errno) {
	q, e := smallQuestOf(p)
	if e != api.OK {
		return api.Ranked{}, nil, e
	}
	best, e := q.best()
	if e != api.OK {
		return api.Ranked{}, nil, e
	}
	steps, e := q.prove(best.Cost)
	if e != api.OK {
		return api.Ranked{}, nil, e
	}
	return best, steps, api.OK
}

// prove returns a proof that every right plan costs at least a bound.
func (q *quest) prove(bound int) ([]api.Step, api.Errno) {
	var steps []api.Step
	for step := range q.prover(q.nobody(), bound).nodes() {
		if step.Kind == none {
			return nil, api.ErrFalse
		}
		steps = append(steps, step)
	}
	return steps, api.OK
}

// plans yields the right plans that extend a partial plan, in order, but none that turns into an earlier one of them: where
// nobody is seated, the canonical ones. Whoever tries to prove that there is none comes across them.
func (q *quest) plans(part []int) iter.Seq[[]int] {
	return func(yield func([]int) bool) {
		v := q.prover(part, -1)
		for step := range v.nodes() {
			if step.Kind == none && !yield(slices.Clone(v.part)) {
				return
			}
		}
	}
}

// prover goes through the tree of a proof that every right plan that extends a partial plan costs at least a bound.
type prover struct {
	*quest
	part  []int // the partial plan at the node where it is
	bound int
}

// prover returns a prover that begins at a partial plan.
func (q *quest) prover(part []int, bound int) *prover { return &prover{q, slices.Clone(part), bound} }

// nodes yields the step of each node, in the order of a proof; one of the kind none where there is none.
func (v *prover) nodes() iter.Seq[api.Step] {
	return func(yield func(api.Step) bool) {
		if step, closed := v.closing(-1); closed {
			yield(step)
			return
		}
		v.branch(yield)
	}
}

// branch yields the steps of a node that no step closes, and of those below it, and reports whether more are wanted.
func (v *prover) branch(yield func(api.Step) bool) bool {
	g := slices.Index(v.part, -1)
	if g < 0 {
		return yield(api.Step{Kind: none})
	}
	if !yield(api.Step{Kind: api.Case, N: g}) {
		return false
	}
branches:
	for seat := range v.free(v.part) {
		v.part[g] = seat
		if step, closed := v.closing(g); closed {
			if !yield(step) {
				return false
			}
			continue branches
		}
		if !v.branch(yield) {
			return false
		}
	}
	v.part[g] = -1
	return true
}

// closing returns a step, other than a case, that applies at the node where the prover is, if there is one. The guest who was
// seated last is -1 at the root.
func (v *prover) closing(last int) (api.Step, bool) {
	if i, is := v.Dead(v.part); is {
		return api.Step{Kind: api.Broken, N: i}, true
	}
	if v.isDear(v.part, v.bound) {
		return api.Step{Kind: api.Dear}, true
	}
	if last < 0 {
		return api.Step{}, false
	}
	k, is := v.turned(v.part, last)
	return api.Step{Kind: api.Turned, N: k}, is
}
