package service

import (
	"slices"

	"trestle/api"
	"trestle/plan"
)

// Waiters divides the tables that are served among waiters.
func Waiters(p api.Problem, part []int, n int) ([][]int, int, api.Errno) {
	if _, e := plan.CheckPart(p, part); e != api.OK {
		return nil, 0, e
	}
	if n < 1 {
		return nil, 0, api.ErrArg
	}
	plates := platesAt(p, part)
	tables := served(plates)
	if len(tables) > MaxStops || n > MaxStops {
		return nil, 0, api.ErrLarge
	}
	even := load(plates, n)
	atLeast := func(waiters []int) int { return max(even, greatest(plates, tables, waiters)) }
	waiters, most := first(len(tables), func(waiters []int) []int { return who(waiters, n) }, atLeast)
	division := make([][]int, n)
	for i, w := range waiters {
		division[w] = append(division[w], tables[i])
	}
	return division, most, api.OK
}

// Load returns a number that the greatest load of n waiters is never below.
func Load(p api.Problem, part []int, n int) int {
	if !isPart(p, part) || n < 1 {
		return 0
	}
	return load(platesAt(p, part), n)
}

// load returns the greatest load that n waiters have at least.
func load(plates []int, n int) int {
	sum, fullest := 0, 0
	for _, k := range plates {
		sum += k
		fullest = max(fullest, k)
	}
	share := sum / n
	if sum%n > 0 {
		share++
	}
	return max(share, fullest)
}

// greatest returns the greatest load if the first tables have some waiters.
func greatest(plates, tables, waiters []int) int {
	var loads [MaxStops]int
	for i, w := range waiters {
		loads[w] += plates[tables[i]]
	}
	return slices.Max(loads[:])
}

// who returns the waiters who may take the next table, if the first tables have some waiters: those who have one, and the
// first of the others. In the first of several equal divisions no other one takes it, as two who have no table yet could
// change places.
func who(waiters []int, n int) []int {
	var list []int
	for w := range n {
		list = append(list, w)
		if !slices.Contains(waiters, w) {
			break
		}
	}
	return list
}
