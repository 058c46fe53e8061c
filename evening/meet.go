package evening

import (
	"iter"
	"slices"
)

// Meet returns on how many evenings two guests meet.
func Meet(n int, s [][][]int) [][]int {
	if !isSchedule(n, s) {
		return nil
	}
	return counted(n, s, pairs)
}

// Beside returns how often two guests are beside each other.
func Beside(n int, s [][][]int) [][]int {
	if !isSchedule(n, s) {
		return nil
	}
	return counted(n, s, neighbours)
}

// Most returns the greatest number of meetings of two guests.
func Most(n int, s [][][]int) int {
	most := 0
	for _, k := range meetings(n, s) {
		most = max(most, k)
	}
	return most
}

// Least returns the least number of meetings of two guests.
func Least(n int, s [][][]int) int {
	all := meetings(n, s)
	if len(all) == 0 {
		return 0
	}
	return slices.Min(all)
}

// Strain returns the sum of the squares of all numbers of meetings.
func Strain(n int, s [][][]int) int {
	sum := 0
	for _, k := range meetings(n, s) {
		sum += k * k
	}
	return sum
}

// Together returns the evenings on which two guests meet.
func Together(n int, s [][][]int, a, b int) []int {
	if a == b || !isSchedule(n, s) {
		return nil
	}
	var list []int
	for i, tables := range s {
		if slices.ContainsFunc(tables, func(table []int) bool { return slices.Contains(table, a) && slices.Contains(table, b) }) {
			list = append(list, i)
		}
	}
	return list
}

// LeastMost returns a number of meetings that no schedule with these sizes is below.
func LeastMost(n int, sizes []int, evenings int) int {
	meet, all, ok := share(n, sizes)
	if !ok || evenings < 1 || meet == 0 {
		return 0
	}
	return (min(evenings, MaxEvenings)*meet + all - 1) / all
}

// MostEvenings returns a number of evenings above which some guests meet more often.
func MostEvenings(n int, sizes []int, often int) int {
	meet, all, ok := share(n, sizes)
	switch {
	case !ok || often < 0:
		return 0
	case meet == 0:
		return MaxEvenings
	}
	return min(min(often, MaxEvenings)*all/meet, MaxEvenings)
}

// share returns how many pairs meet on an evening with these sizes, and how many pairs there are, if the sizes fit.
func share(n int, sizes []int) (meet, all int, ok bool) {
	if !isParty(n) || !fit(n, sizes) {
		return 0, 0, false
	}
	for _, size := range sizes {
		meet += pairsAmong(size)
	}
	return meet, pairsAmong(n), true
}

// pairsAmong returns how many pairs so many guests make.
func pairsAmong(n int) int { return n * (n - 1) / 2 }

// number is what a square counts with.
type number interface{ ~int | ~int64 }

// square is a table with a row and a column for each guest.
type square[N number] [][]N

// squareOf returns a square of zeros for n guests. Its rows share no memory, since they may be given out.
func squareOf[N number](n int) square[N] {
	q := make(square[N], n)
	for x := range n {
		q[x] = make([]N, n)
	}
	return q
}

// count adds a number to the number of each of some pairs.
func (q square[N]) count(pairs iter.Seq2[int, int], k N) {
	for x, y := range pairs {
		q[x][y] += k
		q[y][x] += k
	}
}

// most returns the greatest number of a guest with one of a table, or 0.
func (q square[N]) most(x int, table []int) N {
	row, top := q[x], N(0)
	for _, y := range table {
		top = max(top, row[y])
	}
	return top
}

// sum returns the sum of the numbers of a guest with those of a table.
func (q square[N]) sum(x int, table []int) N {
	row, all := q[x], N(0)
	for _, y := range table {
		all += row[y]
	}
	return all
}

// half yields the number of each two guests once.
func (q square[N]) half() iter.Seq[N] {
	return func(yield func(N) bool) {
		for x := range q {
			for y := range x {
				if !yield(q[x][y]) {
					return
				}
			}
		}
	}
}

// counted returns how often each two guests are among the pairs that are taken of the tables of a valid schedule.
func counted(n int, s [][][]int, taken func(table []int) iter.Seq2[int, int]) square[int] {
	q := squareOf[int](n)
	for _, tables := range s {
		for _, table := range tables {
			q.count(taken(table), 1)
		}
	}
	return q
}

// meetings returns the numbers of meetings of all pairs of guests; none if the schedule is not valid.
func meetings(n int, s [][][]int) []int {
	if !isSchedule(n, s) {
		return nil
	}
	return slices.Collect(counted(n, s, pairs).half())
}

// pairs yields the pairs of guests of a table.
func pairs(table []int) iter.Seq2[int, int] {
	return func(yield func(int, int) bool) {
		for i, x := range table {
			for _, y := range table[:i] {
				if !yield(y, x) {
					return
				}
			}
		}
	}
}

// neighbours yields the pairs of guests of a table who are beside each other.
func neighbours(table []int) iter.Seq2[int, int] {
	return func(yield func(int, int) bool) {
		for i := 1; i < len(table); i++ {
			if !yield(table[i-1], table[i]) {
				return
			}
		}
		// At a table for two, the first and the last one are beside each other already.
		if len(table) > 2 {
			yield(table[len(table)-1], table[0])
		}
	}
}
