package plan

import (
	"slices"

	"trestle/api"
	"trestle/hall"
	"trestle/rule"
)

// Work returns the work of a problem.
func Work(p api.Problem) (int, bool) {
	if !isValid(p) {
		return 0, false
	}
	return choices(hall.Count(p.Tables), len(p.Guests))
}

// choices returns in how many ways guests can choose among seats, one seat each; or false if it is above MaxWork.
func choices(seats, guests int) (int, bool) {
	n := 1
	for g := range guests {
		n *= seats - g
		if n > api.MaxWork {
			return 0, false
		}
	}
	return n, true
}

// Count returns the number of all plans, and of their classes.
func Count(p api.Problem) (plans, classes int, e api.Errno) {
	order, e := Size(p)
	if e != api.OK {
		return 0, 0, e
	}
	plans, ok := Work(p)
	if !ok {
		return 0, 0, api.ErrLarge
	}
	sum := 0
	for seats, n := range inPlace(p) {
		// A plan is its own image if everybody sits on a seat that stays in place.
		own, _ := choices(seats, len(p.Guests))
		sum += n * own
	}
	return plans, sum / order, api.OK
}

// inPlace returns how many elements of the group of a valid problem leave how many seats in place, by these numbers of seats.
// The group may be too large to go through it, but each table adds to these numbers by itself.
func inPlace(p api.Problem) map[int]int {
	count := map[int]int{0: 1}
	for t := range p.Tables {
		longer := map[int]int{}
		for turn := range elements(p, t) {
			for seats, n := range count {
				longer[seats+stays(turn)] += n
			}
		}
		count = longer
	}
	return count
}

// stays returns the number of seats that a turn leaves in place.
func stays(turn []int) int {
	n := 0
	for k, to := range turn {
		if to == k {
			n++
		}
	}
	return n
}

// Rank returns the number of a plan among all plans.
func Rank(p api.Problem, plan []int) (int, api.Errno) {
	if _, e := Check(p, plan); e != api.OK {
		return 0, e
	}
	work, ok := Work(p)
	if !ok {
		return 0, api.ErrLarge
	}
	n := 0
	free := seatsOf(p)
	for _, seat := range plan {
		k, _ := slices.BinarySearch(free, seat)
		work /= len(free)
		n += k * work
		free = slices.Delete(free, k, k+1)
	}
	return n, api.OK
}

// Unrank returns the plan with a number.
func Unrank(p api.Problem, n int) ([]int, api.Errno) {
	if _, e := rule.Check(p); e != api.OK {
		return nil, e
	}
	work, ok := Work(p)
	switch {
	case !ok:
		return nil, api.ErrLarge
	case n < 0 || n >= work:
		return nil, api.ErrArg
	}
	var plan []int
	free := seatsOf(p)
	for range p.Guests {
		work /= len(free)
		k := n / work
		plan = append(plan, free[k])
		n %= work
		free = slices.Delete(free, k, k+1)
	}
	return plan, api.OK
}

// seatsOf returns the seats of a valid problem.
func seatsOf(p api.Problem) []int {
	seats := make([]int, hall.Count(p.Tables))
	for k := range seats {
		seats[k] = k
	}
	return seats
}

// Next returns the plan after a plan.
func Next(p api.Problem, plan []int) ([]int, bool) {
	if _, e := Check(p, plan); e != api.OK {
		return nil, false
	}
	seats := hall.Count(p.Tables)
	for g := len(plan) - 1; g >= 0; g-- {
		seat, ok := firstFree(seats, plan[:g], plan[g]+1)
		if !ok {
			continue
		}
		next := append(slices.Clone(plan[:g]), seat)
		for len(next) < len(plan) {
			seat, _ := firstFree(seats, next, 0)
			next = append(next, seat)
		}
		return next, true
	}
	return nil, false
}

// firstFree returns the first of a number of seats, from some seat on, that is free if some guests are seated.
func firstFree(seats int, seated []int, from int) (int, bool) {
	for seat := from; seat < seats; seat++ {
		if checkSeat(seats, seated, seat) == api.OK {
			return seat, true
		}
	}
	return 0, false
}
