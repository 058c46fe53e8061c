package guest

import (
	"cmp"
	"maps"
	"slices"

	"trestle/api"
)

// Count tells how many guests have a diet.
type Count struct {
	Diet string
	N    int
}

// Common returns the tongues that two guests have in common.
func (b *Book) Common(one, other string) []string {
	if !b.isBook() || !b.has(one) || !b.has(other) {
		return nil
	}
	return b.common(b.place[one], b.place[other])
}

// Chain returns the shortest chain of interpreters between two guests.
func (b *Book) Chain(one, other string) ([]string, bool) {
	if !b.isBook() || !b.has(one) || !b.has(other) {
		return nil, false
	}
	steps, by := b.spread(b.place[one], func(i, k int) bool { return len(b.common(i, k)) > 0 })
	last := b.place[other]
	if steps[last] < 0 {
		return nil, false
	}
	var chain []string
	for i := last; i >= 0; i = by[i] {
		chain = append(chain, b.guests[i].Name)
	}
	slices.Reverse(chain)
	return chain, true
}

// Circles returns the circles of friends.
func (b *Book) Circles() [][]string {
	if !b.isBook() {
		return nil
	}
	order := b.byName()
	placed := make([]bool, len(b.guests))
	var circles [][]string
	for _, i := range order {
		if placed[i] {
			continue
		}
		steps, _ := b.spread(i, b.tiedBy(api.Friend))
		var circle []string
		for _, k := range order {
			if steps[k] >= 0 {
				placed[k] = true
				circle = append(circle, b.guests[k].Name)
			}
		}
		circles = append(circles, circle)
	}
	return circles
}

// Camps divides the guests into two camps without feuds, or returns an odd ring of feuds.
func (b *Book) Camps() ([]int, []string) {
	if !b.isBook() {
		return nil, nil
	}
	camps := slices.Repeat([]int{-1}, len(b.guests))
	for i := range camps {
		if camps[i] >= 0 {
			continue
		}
		feuds := b.tiedBy(api.Feud)
		steps, by := b.spread(i, feuds)
		if one, other, ok := meet(steps, feuds); ok {
			return nil, b.ring(one, other, by)
		}
		for k, n := range steps {
			if n >= 0 {
				camps[k] = n % 2
			}
		}
	}
	return camps, nil
}

// Diets returns how many guests have each diet.
func (b *Book) Diets() []Count {
	if !b.isBook() {
		return nil
	}
	var list []Count
	for _, g := range b.guests {
		i, there := slices.BinarySearchFunc(list, g.Diet, func(c Count, diet string) int { return cmp.Compare(c.Diet, diet) })
		if !there {
			list = slices.Insert(list, i, Count{Diet: g.Diet})
		}
		list[i].N++
	}
	return list
}

// common returns the tongues that two guests have in common, by where the guests stand.
func (c *content) common(i, k int) []string {
	var list []string
	for _, tongue := range c.guests[i].Tongues {
		if slices.Contains(c.guests[k].Tongues, tongue) {
			list = append(list, tongue)
		}
	}
	return list
}

// tiedBy returns the question whether a tie of a kind joins two guests.
func (c *content) tiedBy(kind api.TieKind) func(i, k int) bool {
	return func(i, k int) bool {
		at, tied := c.seek(c.guests[i].Name, c.guests[k].Name)
		return tied && c.ties[at].Kind == kind
	}
}

// byName returns where the guests stand, in increasing order of their names.
func (c *content) byName() []int {
	var list []int
	for _, name := range slices.Sorted(maps.Keys(c.place)) {
		list = append(list, c.place[name])
	}
	return list
}

// spread goes out from a guest, each step from a guest to one that is joined to it. It returns how many steps it takes to
// each guest at least, and from whom the last of them comes; -1 where there is none.
func (c *content) spread(from int, joined func(i, k int) bool) (steps, by []int) {
	steps = slices.Repeat([]int{-1}, len(c.guests))
	by = slices.Clone(steps)
	steps[from] = 0
	order := c.byName()
	queue := []int{from}
	for len(queue) > 0 {
		i := queue[0]
		queue = queue[1:]
		// In this order each guest is first reached over the first one of its shortest chains.
		for _, k := range order {
			if steps[k] < 0 && joined(i, k) {
				steps[k], by[k] = steps[i]+1, i
				queue = append(queue, k)
			}
		}
	}
	return steps, by
}

// meet returns two guests who are joined although it takes equally many steps to both. The steps to two who are joined
// differ by one at most, so if there are none, each joins an even and an odd number of steps.
func meet(steps []int, joined func(i, k int) bool) (one, other int, ok bool) {
	for i, n := range steps {
		for k := range i {
			if n >= 0 && steps[k] == n && joined(i, k) {
				return i, k, true
			}
		}
	}
	return 0, 0, false
}

// ring returns the ring of two guests who are joined, and of the ways on which as many steps led to one as to the other, from
// where these ways parted.
func (c *content) ring(one, other int, by []int) []string {
	var there, back []string
	for one != other {
		there = append(there, c.guests[one].Name)
		back = append(back, c.guests[other].Name)
		one, other = by[one], by[other]
	}
	slices.Reverse(back)
	return slices.Concat(there, []string{c.guests[one].Name}, back)
}
