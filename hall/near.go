package hall

import (
	"cmp"
	"slices"

	"trestle/api"
)

// Beside reports whether two seats are beside each other.
func Beside(l []api.Table, a, b int) bool { return related(l, a, b, besideAt) }

// Across reports whether two seats are across from each other.
func Across(l []api.Table, a, b int) bool { return related(l, a, b, acrossAt) }

// Near reports whether two seats are beside or across from each other.
func Near(l []api.Table, a, b int) bool { return related(l, a, b, nearAt) }

// Distance returns the least number of steps from one seat to another one, each to a near seat.
func Distance(l []api.Table, a, b int) (int, bool) {
	t, k, m, ok := atOneTable(l, a, b)
	if !ok {
		return 0, false
	}
	d := distances(t, k)[m]
	if d < 0 {
		return 0, false
	}
	return d, true
}

// Neighbours returns the seats near a seat, in increasing order.
func Neighbours(l []api.Table, a int) []int {
	i, k, ok := Where(l, a)
	if !ok {
		return nil
	}
	var list []int
	for m := range seatsOf(l[i]) {
		if nearAt(l[i], k, m) {
			list = append(list, a-k+m)
		}
	}
	return list
}

// Open reports whether a seat can be reached freely.
func Open(l []api.Table, a int) bool {
	i, k, ok := Where(l, a)
	return ok && slices.Contains(l[i].Open, k)
}

// Blocks returns the seats of table t, divided into blocks of seats that reach each other.
func Blocks(l []api.Table, t int) [][]int {
	if !hasTable(l, t) {
		return nil
	}
	first := seatsBefore(l, t)
	placed := make([]bool, seatsOf(l[t]))
	var blocks [][]int
	for k := range placed {
		if placed[k] {
			continue
		}
		var block []int
		for m, d := range distances(l[t], k) {
			if d >= 0 {
				placed[m] = true
				block = append(block, first+m)
			}
		}
		blocks = append(blocks, block)
	}
	return blocks
}

// Honour returns the seats of table t in the order of honour.
func Honour(l []api.Table, t int) []int {
	if !hasTable(l, t) {
		return nil
	}
	first := seatsBefore(l, t)
	level := levels(l[t])
	list := make([]int, len(level))
	for k := range list {
		list[k] = first + k
	}
	slices.SortFunc(list, func(a, b int) int {
		return cmp.Or(cmp.Compare(level[a-first], level[b-first]), cmp.Compare(a, b))
	})
	return list
}

// Level returns the level of a seat.
func Level(l []api.Table, a int) int {
	i, k, ok := Where(l, a)
	if !ok {
		return 0
	}
	return levels(l[i])[k]
}

// related reports whether two seats of a hall are at one table and in a relation there.
func related(l []api.Table, a, b int, holds func(t api.Table, k, m int) bool) bool {
	t, k, m, ok := atOneTable(l, a, b)
	return ok && holds(t, k, m)
}

// atOneTable returns the table that two seats of a hall share, and their numbers at it.
func atOneTable(l []api.Table, a, b int) (t api.Table, k, m int, ok bool) {
	i, k, one := Where(l, a)
	j, m, other := Where(l, b)
	if !one || !other || i != j {
		return api.Table{}, 0, 0, false
	}
	return l[i], k, m, true
}

// distances returns the distance of each seat of a valid table from one of them, -1 where it is not defined.
func distances(t api.Table, from int) []int {
	list := slices.Repeat([]int{-1}, seatsOf(t))
	list[from] = 0
	queue := []int{from}
	for len(queue) > 0 {
		k := queue[0]
		queue = queue[1:]
		for m := range list {
			if list[m] < 0 && nearAt(t, k, m) {
				list[m] = list[k] + 1
				queue = append(queue, m)
			}
		}
	}
	return list
}

// levels returns the level of each seat of a valid table.
func levels(t api.Table) []int {
	list := distances(t, honourOf(t))
	for k, d := range list {
		if d < 0 {
			list[k] = len(list)
		}
	}
	return list
}
