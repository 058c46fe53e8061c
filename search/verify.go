package search

import (
	"slices"

	"trestle/api"
)

// Verify checks a proof: the index of the first step that does not apply, and its error.
func Verify(p api.Problem, bound int, steps []api.Step) (int, api.Errno) {
	q, e := questOf(p)
	switch {
	case e != api.OK:
		return 0, e
	case len(steps) > api.MaxSteps:
		return 0, api.ErrMany
	}
	r := &reader{quest: q, part: q.nobody(), bound: bound, steps: steps}
	return r.read()
}

// reader reads a proof that every right plan costs at least a bound.
type reader struct {
	*quest
	part  []int // the partial plan at the node where it is
	bound int
	steps []api.Step
	next  int // the step that it reads next
}

// read reads the whole proof: the index at which it is wrong, and the error.
func (r *reader) read() (at int, e api.Errno) {
	defer func() {
		if wrong := recover(); wrong != nil {
			at, e = r.next, wrong.(api.Errno)
		}
	}()
	r.node(-1)
	expect(r.next == len(r.steps), api.ErrRest)
	return 0, api.OK
}

// expect leaves the proof with an error, unless what is expected holds. The deferred call of read recovers the panic.
func expect(holds bool, e api.Errno) {
	if !holds {
		panic(e)
	}
}

// node reads the steps of a node and of those below it. The guest who was seated last is -1 at the root.
func (r *reader) node(last int) {
	expect(r.next < len(r.steps), api.ErrShort)
	step := r.steps[r.next]
	r.check(step, last)
	r.next++
	if step.Kind != api.Case {
		return
	}
	for seat := range r.free(r.part) {
		r.part[step.N] = seat
		r.node(step.N)
	}
	r.part[step.N] = -1
}

// check expects that a step applies at the node where the reader is.
func (r *reader) check(step api.Step, last int) {
	n := step.N
	switch step.Kind {
	case api.Case:
		expect(n >= 0 && n < r.guests && r.part[n] == -1, api.ErrCase)
	case api.Broken:
		expect(slices.Contains(r.hard, n) && r.Least(r.part, n) > 0, api.ErrBroken)
	case api.Dear:
		expect(r.isDear(r.part, r.bound), api.ErrDear)
	case api.Turned:
		expect(last >= 0 && r.turns(r.part, last, n), api.ErrTurned)
	default:
		panic(api.ErrArg)
	}
}
