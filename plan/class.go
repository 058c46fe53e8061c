package plan

import (
	"slices"

	"trestle/api"
)

// Canon returns the canonical image of a partial plan.
func Canon(p api.Problem, part []int) ([]int, api.Errno) {
	if _, e := CheckPart(p, part); e != api.OK {
		return nil, e
	}
	least := slices.Clone(part)
	// Turning a table moves no guest of another one. So the least image is the one with each table turned to its least.
	for t := range p.Tables {
		for image := range images(p, least, t) {
			if slices.Compare(image, least) < 0 {
				least = image
			}
		}
	}
	return least, api.OK
}

// Same reports whether two partial plans are the same up to turning.
func Same(p api.Problem, a, b []int) bool {
	one, e := Canon(p, a)
	other, f := Canon(p, b)
	return e == api.OK && f == api.OK && slices.Equal(one, other)
}

// Orbit returns the number of different images of a partial plan.
func Orbit(p api.Problem, part []int) (int, api.Errno) {
	fixed, e := Fixed(p, part)
	if e != api.OK {
		return 0, e
	}
	order, e := Size(p)
	// Every image comes from equally many elements.
	return order / fixed, e
}

// Fixed returns the number of elements of the group that leave a partial plan as it is.
func Fixed(p api.Problem, part []int) (int, api.Errno) {
	if _, e := CheckPart(p, part); e != api.OK {
		return 0, e
	}
	if _, e := Size(p); e != api.OK {
		return 0, e
	}
	fixed := 1
	for t := range p.Tables {
		n := 0
		for image := range images(p, part, t) {
			if slices.Equal(image, part) {
				n++
			}
		}
		fixed *= n
	}
	return fixed, api.OK
}
