package large

import (
	"iter"
	"slices"

	"trestle/api"
	"trestle/hall"
	"trestle/rule"
)

// host seats the guests of a problem. It has one judge for all partial plans, as a judge of a large hall takes long to make.
type host struct {
	*rule.Judge
	problem api.Problem
	hard    []int // the hard rules
	seats   int
}

// hostOf returns a host for a problem.
func hostOf(p api.Problem) (host, api.Errno) {
	j, _, e := rule.New(p)
	return host{j, p, rule.Hard(p), hall.Count(p.Tables)}, e
}

// nobody returns the partial plan in which nobody is seated.
func (h host) nobody() []int { return slices.Repeat([]int{-1}, len(h.problem.Guests)) }

// seatings yields what a partial plan becomes if a guest who is not seated sits down, free seat by free seat.
func (h host) seatings(part []int, g int) iter.Seq[[]int] {
	return func(yield func([]int) bool) {
		for seat := range h.seats {
			if !slices.Contains(part, seat) && !yield(moved(part, g, seat)) {
				return
			}
		}
	}
}

// moved returns the partial plan in which a guest has gone to a seat. Who sat there, if anybody did, has the guest's number.
func moved(part []int, g, seat int) []int {
	next := slices.Clone(part)
	if other := slices.Index(part, seat); other >= 0 {
		next[other] = part[g]
	}
	next[g] = seat
	return next
}
