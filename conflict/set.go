package conflict

import (
	"cmp"
	"maps"
	"slices"

	"trestle/api"
)

// Hits reports whether each list of a has a number in common with each list of b.
func Hits(a, b [][]int) bool {
	for _, x := range a {
		in := map[int]bool{}
		for _, n := range x {
			in[n] = true
		}
		for _, y := range b {
			if !slices.ContainsFunc(y, func(n int) bool { return in[n] }) {
				return false
			}
		}
	}
	return true
}

// Transversals returns all minimal hitting sets.
func Transversals(l [][]int, limit int) ([][]int, api.Errno) {
	b, ok := baseOf(l)
	if !ok {
		return nil, api.ErrLarge
	}
	f := family{}
	for _, x := range l {
		f[b.setOf(x)] = true
	}
	return atMost(b.listsOf(f.transversals(len(b))), limit)
}

// atMost returns a list, unless it is longer than a limit.
func atMost(l [][]int, limit int) ([][]int, api.Errno) {
	if len(l) > max(limit, 0) {
		return nil, api.ErrMany
	}
	return l, api.OK
}

// base is the numbers of which sets are made, at most MaxHard, in increasing order.
type base []int

// set is a set of numbers of a base: bit k is 1 if it has the base's number k.
type set uint16

// family is some sets of numbers of one base.
type family map[set]bool

// baseOf returns the numbers that occur in some lists, if they are not too many.
func baseOf(l [][]int) (base, bool) {
	occurs := map[int]bool{}
	for _, x := range l {
		for _, n := range x {
			occurs[n] = true
			if len(occurs) > MaxHard {
				return nil, false
			}
		}
	}
	return slices.Sorted(maps.Keys(occurs)), true
}

// setOf returns the set of some numbers of the base, which come in any order.
func (b base) setOf(l []int) set {
	var s set
	for _, n := range l {
		k, _ := slices.BinarySearch(b, n)
		s |= 1 << k
	}
	return s
}

// listOf returns the numbers of a set, in increasing order.
func (b base) listOf(s set) []int {
	var l []int
	for k, n := range b {
		if s&(1<<k) != 0 {
			l = append(l, n)
		}
	}
	return l
}

// listsOf returns the sets of a family as lists, in order.
func (b base) listsOf(f family) [][]int {
	var l [][]int
	for s := range f {
		l = append(l, b.listOf(s))
	}
	slices.SortFunc(l, func(x, y []int) int { return cmp.Or(cmp.Compare(len(x), len(y)), slices.Compare(x, y)) })
	return l
}

// reduce deletes each set that contains another one.
func (f family) reduce() {
	for s := range f {
		if f.hasBelow(s) {
			delete(f, s)
		}
	}
}

// hasBelow reports whether a family has a proper subset of a set.
func (f family) hasBelow(s set) bool {
	for t := range f {
		if t != s && t&s == t {
			return true
		}
	}
	return false
}

// isHitBy reports whether a set has a number in common with each set of a family.
func (f family) isHitBy(s set) bool {
	for t := range f {
		if s&t == 0 {
			return false
		}
	}
	return true
}

// transversals returns the minimal hitting sets of a family whose base has some size.
func (f family) transversals(size int) family {
	minimal := family{}
	for s := range set(1 << size) {
		// All proper subsets came before, as they are lesser numbers.
		if f.isHitBy(s) && !minimal.hasBelow(s) {
			minimal[s] = true
		}
	}
	return minimal
}
