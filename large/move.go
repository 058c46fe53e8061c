package large

import (
	"cmp"
	"iter"
	"slices"

	"trestle/api"
	"trestle/plan"
)

// Start seats one guest after the other.
func Start(p api.Problem) ([]int, api.Errno) {
	h, e := smallHostOf(p)
	if e != api.OK {
		return nil, e
	}
	return h.start(), api.OK
}

// Improve makes a plan better by moves, at most so many; it returns the plan and the number of moves.
func Improve(p api.Problem, x []int, rounds int) ([]int, int, api.Errno) {
	if _, e := plan.Check(p, x); e != api.OK {
		return nil, 0, e
	}
	h, e := smallHostOf(p)
	if e != api.OK {
		return nil, 0, e
	}
	best, n := h.improve(slices.Clone(x), rounds)
	return best, n, api.OK
}

// smallHostOf returns a host for a problem that has few enough moves to try all of them.
func smallHostOf(p api.Problem) (host, api.Errno) {
	h, e := hostOf(p)
	switch {
	case e != api.OK:
		return host{}, e
	case len(p.Guests)*h.seats > MaxMoves:
		return host{}, api.ErrLarge
	}
	return h, api.OK
}

// start seats all guests, one after the other.
func (h host) start() []int {
	x := h.nobody()
	for g := range x {
		x, _ = h.least(h.seatings(x, g))
	}
	return x
}

// improve makes the best moves, at most so many, as long as they make a plan better.
func (h host) improve(x []int, rounds int) (best []int, n int) {
	now := h.strain(x)
	for n < rounds {
		next, s := h.least(h.moves(x))
		if next == nil || !less(s, now) {
			break
		}
		x, now = next, s
		n++
	}
	return x, n
}

// strain is the certain faults of all hard rules, and the floor.
type strain [2]int

// less reports whether an array is less than another one: its first number, or if these are equal its second one.
func less[N cmp.Ordered](a, b [2]N) bool { return slices.Compare(a[:], b[:]) < 0 }

// strain returns the strain of a partial plan.
func (h host) strain(part []int) strain {
	s := strain{0, h.Floor(part)}
	for _, i := range h.hard {
		s[0] += h.Least(part, i)
	}
	return s
}

// least returns the first of some partial plans that have the least strain, with its strain.
func (h host) least(parts iter.Seq[[]int]) (best []int, s strain) {
	for part := range parts {
		if now := h.strain(part); best == nil || less(now, s) {
			best, s = part, now
		}
	}
	return best, s
}

// moves yields what moves make of a plan, guest by guest, seat by seat.
func (h host) moves(x []int) iter.Seq[[]int] {
	return func(yield func([]int) bool) {
		for g := range x {
			for seat := range h.seats {
				if seat != x[g] && !yield(moved(x, g, seat)) {
					return
				}
			}
		}
	}
}
