package service

import (
	"math"
	"slices"

	"trestle/api"
	"trestle/plan"
	"trestle/rule"
)

// kitchen stands for the kitchen among the tables.
const kitchen = -1

// Steps returns the steps between two tables; -1 is the kitchen.
func Steps(p api.Problem, a, b int) (int, bool) {
	if !isValid(p) || a != kitchen && !hasTable(p, a) || b != kitchen && !hasTable(p, b) {
		return 0, false
	}
	return steps(p, a, b), true
}

// Length returns the length of a way.
func Length(p api.Problem, way []int) (int, api.Errno) {
	if _, e := rule.Check(p); e != api.OK {
		return 0, e
	}
	for _, t := range way {
		if !hasTable(p, t) {
			return 0, api.ErrArg
		}
	}
	return length(p, way), api.OK
}

// Route returns a shortest way over all tables that are served.
func Route(p api.Problem, part []int) (way []int, length int, e api.Errno) {
	if _, e := plan.CheckPart(p, part); e != api.OK {
		return nil, 0, e
	}
	stops := served(platesAt(p, part))
	if len(stops) > MaxStops {
		return nil, 0, api.ErrLarge
	}
	after := func(way []int) []int { return without(stops, way) }
	atLeast := func(way []int) int { return shortestOn(p, way, without(stops, way)) }
	way, length = first(len(stops), after, atLeast)
	return way, length, api.OK
}

// Span returns the least sum of steps that joins the kitchen and all tables that are served.
func Span(p api.Problem, part []int) int {
	if !isPart(p, part) {
		return 0
	}
	joined, left := []int{kitchen}, served(platesAt(p, part))
	sum := 0
	for len(left) > 0 {
		next, far := 0, math.MaxInt
		for i, t := range left {
			for _, u := range joined {
				if d := steps(p, t, u); d < far {
					next, far = i, d
				}
			}
		}
		joined, left = append(joined, left[next]), slices.Delete(left, next, next+1)
		sum += far
	}
	return sum
}

// steps returns the steps between two tables that exist, or the kitchen.
func steps(p api.Problem, a, b int) int {
	ax, ay := point(p, a)
	bx, by := point(p, b)
	return max(ax-bx, bx-ax) + max(ay-by, by-ay)
}

// point returns where a table or the kitchen is.
func point(p api.Problem, t int) (x, y int) {
	if t == kitchen {
		return 0, 0
	}
	return p.Tables[t].X, p.Tables[t].Y
}

// length returns the length of a way over tables that exist.
func length(p api.Problem, way []int) int {
	out, end := outward(p, way)
	return out + steps(p, end, kitchen)
}

// outward returns the steps of a way up to its last stop, and that stop.
func outward(p api.Problem, way []int) (sum, end int) {
	end = kitchen
	for _, t := range way {
		sum += steps(p, end, t)
		end = t
	}
	return sum, end
}

// shortestOn returns a length that no way is below which begins with a way and goes on to some tables: it leads to the
// farthest of these, and home from there.
func shortestOn(p api.Problem, way, left []int) int {
	out, end := outward(p, way)
	on := steps(p, end, kitchen)
	for _, t := range left {
		on = max(on, steps(p, end, t)+steps(p, t, kitchen))
	}
	return out + on
}

// without returns the numbers of a list that another one does not have.
func without(list, others []int) []int {
	var rest []int
	for _, n := range list {
		if !slices.Contains(others, n) {
			rest = append(rest, n)
		}
	}
	return rest
}
