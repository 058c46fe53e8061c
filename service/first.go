package service

import (
	"math"
	"slices"
)

// first returns the first, in lexicographic order, of the lists of n numbers that cost least, and their cost. It is told which
// numbers may come after a list, in increasing order, and what each list that begins with it costs at least: of a list of n
// numbers, what it costs.
func first(n int, after func(list []int) []int, atLeast func(list []int) int) ([]int, int) {
	var best []int
	least := math.MaxInt
	// The last list is always the one that comes first in lexicographic order.
	open := [][]int{nil}
search:
	for len(open) > 0 {
		list := open[len(open)-1]
		open = open[:len(open)-1]
		cost := atLeast(list)
		switch {
		case cost >= least:
			continue search
		case len(list) == n:
			best, least = list, cost
			continue search
		}
		for _, next := range slices.Backward(after(list)) {
			open = append(open, extended(list, next))
		}
	}
	return best, least
}

// extended returns a copy of a list with a number behind it.
func extended(list []int, next int) []int {
	longer := make([]int, len(list)+1)
	copy(longer, list)
	longer[len(list)] = next
	return longer
}
