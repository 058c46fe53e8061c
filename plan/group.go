package plan

import (
	"iter"
	"slices"

	"trestle/api"
	"trestle/hall"
	"trestle/rule"
)

// maxOrder is the greatest order of a group of which anything is counted.
const maxOrder = 1 << 30

// Group returns the elements of the group of table t.
func Group(p api.Problem, t int) [][]int {
	if !isValid(p) || !hasTable(p, t) {
		return nil
	}
	return slices.Collect(elements(p, t))
}

// Size returns the order of the group of the problem.
func Size(p api.Problem) (int, api.Errno) {
	if _, e := rule.Check(p); e != api.OK {
		return 0, e
	}
	order := 1
	for t := range p.Tables {
		n := 0
		for range elements(p, t) {
			n++
		}
		if order > maxOrder/n {
			return 0, api.ErrLarge
		}
		order *= n
	}
	return order, api.OK
}

// Act returns the image of a partial plan under element k of the group of table t.
func Act(p api.Problem, part []int, t, k int) ([]int, api.Errno) {
	if _, e := CheckPart(p, part); e != api.OK {
		return nil, e
	}
	if !hasTable(p, t) {
		return nil, api.ErrArg
	}
	i := 0
	for image := range images(p, part, t) {
		if i == k {
			return image, api.OK
		}
		i++
	}
	return nil, api.ErrArg
}

// Swap returns the partial plan in which two guests have each other's number.
func Swap(p api.Problem, part []int, g, h int) ([]int, api.Errno) {
	if _, e := CheckPart(p, part); e != api.OK {
		return nil, e
	}
	if g < 0 || g >= len(part) || h < 0 || h >= len(part) {
		return nil, api.ErrArg
	}
	swapped := slices.Clone(part)
	swapped[g], swapped[h] = part[h], part[g]
	return swapped, api.OK
}

// elements yields the elements of the group of a table of a valid problem, in order.
func elements(p api.Problem, t int) iter.Seq[[]int] {
	return func(yield func([]int) bool) {
		first := hall.First(p.Tables, t)
		pinned := rule.Pinned(p, t)
		for i := range pinned {
			pinned[i] -= first
		}
		for _, turn := range hall.Stay(p.Tables[t], pinned) {
			if !yield(turn) {
				return
			}
		}
	}
}

// images yields the images of a partial plan under the elements of the group of a table, in order.
func images(p api.Problem, part []int, t int) iter.Seq[[]int] {
	return func(yield func([]int) bool) {
		first := hall.First(p.Tables, t)
		for turn := range elements(p, t) {
			if !yield(turned(part, first, turn)) {
				return
			}
		}
	}
}

// turned returns the image of a partial plan under a turn of the table with some first seat.
func turned(part []int, first int, turn []int) []int {
	image := slices.Clone(part)
	for g, seat := range part {
		if k := seat - first; seat >= first && k < len(turn) {
			image[g] = first + turn[k]
		}
	}
	return image
}
