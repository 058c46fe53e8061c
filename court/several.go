package court

import (
	"slices"

	"trestle/api"
)

// Alternate lets courts take turns.
func Alternate(courts [][]api.Clause, names []string, g []api.Guest) ([]int, api.Errno) {
	switch {
	case len(courts) > MaxCourts || len(g) > api.MaxGuests:
		return nil, api.ErrMany
	case len(courts) != len(names):
		return nil, api.ErrArg
	}
	lines := make([][]int, len(courts))
	for k, c := range courts {
		_, wrong := Check(c)
		switch {
		case names[k] != "" && !isName(names[k]):
			return nil, api.ErrName
		case slices.Contains(names[:k], names[k]):
			return nil, api.ErrTwice
		case wrong != api.OK:
			return nil, wrong
		}
		own, e := lineOf(c, guestsOf(names[k], g))
		if e != api.OK {
			return nil, e
		}
		lines[k] = own
	}
	turns := takeTurns(lines)
	for x, guest := range g {
		if !slices.Contains(names, guest.Court) {
			turns = append(turns, x)
		}
	}
	return turns, api.OK
}

// Agree returns the pairs of guests on which all courts agree.
func Agree(courts [][]api.Clause, g []api.Guest) [][2]int {
	return pairs(courts, g, func(x, y, pro, contra int) bool { return pro == len(courts) })
}

// Conflicts returns the pairs of guests on which courts contradict each other.
func Conflicts(courts [][]api.Clause, g []api.Guest) [][2]int {
	return pairs(courts, g, func(x, y, pro, contra int) bool { return x < y && pro > 0 && contra > 0 })
}

// Disagreements returns the number of disagreements of an order with courts.
func Disagreements(courts [][]api.Clause, g []api.Guest, order []int) int {
	if len(order) != len(g) || !isPermutation(order) {
		return 0
	}
	n := 0
	for _, class := range views(courts, g) {
		n += Inversions(class, order)
	}
	return n
}

// Compromise returns the order with the fewest disagreements, and their number.
func Compromise(courts [][]api.Clause, g []api.Guest) ([]int, int, api.Errno) {
	if len(courts) > MaxCourts {
		return nil, 0, api.ErrMany
	}
	for _, c := range courts {
		if _, e := Check(c); e != api.OK {
			return nil, 0, e
		}
	}
	if len(g) > MaxExact {
		return nil, 0, api.ErrLarge
	}
	all := views(courts, g)
	order, n := cheapest(len(g), func(x, y int) int { return votes(all, y, x) })
	return order, n, api.OK
}

// Inversions returns the number of pairs of an order that contradict classes.
func Inversions(class, order []int) int {
	list := make([]int, len(order))
	for i, x := range order {
		if x < 0 || x >= len(class) {
			return 0
		}
		list[i] = class[x]
	}
	return settle(list)
}

// guestsOf returns the guests of a court, at their places in the list of all.
func guestsOf(name string, g []api.Guest) []placed {
	return slices.DeleteFunc(placedAll(g), func(p placed) bool { return p.Court != name })
}

// takeTurns returns the elements of some lists, in each round one of each list that has one left.
func takeTurns(lists [][]int) []int {
	longest := 0
	for _, list := range lists {
		longest = max(longest, len(list))
	}
	var turns []int
	for round := range longest {
		for _, list := range lists {
			if round < len(list) {
				turns = append(turns, list[round])
			}
		}
	}
	return turns
}

// views returns the classes of the guests by each court's text; none if a text is not valid, or if there are too many of them
// or of the guests.
func views(courts [][]api.Clause, g []api.Guest) [][]int {
	if len(courts) > MaxCourts {
		return nil
	}
	var all [][]int
	for _, c := range courts {
		if !canOrder(c, g) {
			return nil
		}
		all = append(all, Class(c, g))
	}
	return all
}

// votes returns by how many views x goes before y.
func votes(all [][]int, x, y int) int {
	n := 0
	for _, class := range all {
		if class[x] < class[y] {
			n++
		}
	}
	return n
}

// pairs returns the pairs of guests that are wanted, when so many courts are for x before y, and so many for y before x; none if
// there are no views.
func pairs(courts [][]api.Clause, g []api.Guest, wanted func(x, y, pro, contra int) bool) [][2]int {
	all := views(courts, g)
	if len(all) == 0 {
		return nil
	}
	var list [][2]int
	for x := range g {
		for y := range g {
			if wanted(x, y, votes(all, x, y), votes(all, y, x)) {
				list = append(list, [2]int{x, y})
			}
		}
	}
	return list
}

// cheapest returns the order of the numbers below n that costs least, the first one of several, and what it costs: the sum of
// cost(x, y) over all x that are before some y.
func cheapest(n int, cost func(x, y int) int) ([]int, int) {
	var best []int
	least := 0
	var extend func(order []int, sum int)
	extend = func(order []int, sum int) {
		if best != nil && sum >= least {
			return
		}
		if len(order) == n {
			best, least = slices.Clone(order), sum
			return
		}
		for y := range n {
			if slices.Contains(order, y) {
				continue
			}
			more := 0
			for _, x := range order {
				more += cost(x, y)
			}
			extend(append(order, y), sum+more)
		}
	}
	extend(nil, 0)
	return best, least
}

// settle sorts a list, and returns how many pairs of it stood the wrong way round. Lists may be long, so it merges halves: an
// element that overtakes those left in the first half stood behind each of them.
func settle(list []int) int {
	if len(list) < 2 {
		return 0
	}
	half := len(list) / 2
	left, right := slices.Clone(list[:half]), slices.Clone(list[half:])
	n := settle(left) + settle(right)
	for i := range list {
		if len(right) == 0 || len(left) > 0 && left[0] <= right[0] {
			list[i], left = left[0], left[1:]
			continue
		}
		list[i], right = right[0], right[1:]
		n += len(left)
	}
	return n
}

// isPermutation reports whether each number from 0 to len(order) - 1 occurs once in an order.
func isPermutation(order []int) bool {
	seen := make([]bool, len(order))
	for _, x := range order {
		if x < 0 || x >= len(order) || seen[x] {
			return false
		}
		seen[x] = true
	}
	return true
}
