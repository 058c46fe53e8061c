package evening

import (
	"cmp"

	"trestle/api"
)

// Plan fills a schedule step by step.
func Plan(n int, sizes []int, evenings int) ([][][]int, api.Errno) {
	switch {
	case !isParty(n) || !fit(n, sizes):
		return nil, api.ErrSize
	case !isSeason(evenings):
		return nil, api.ErrArg
	}
	met := squareOf[int](n)
	s := make([][][]int, evenings)
	for e := range s {
		s[e] = fill(met, sizes)
		for _, table := range s[e] {
			met.count(pairs(table), 1)
		}
	}
	return s, api.OK
}

// fill seats all guests at tables of these sizes, as well as can be after so many meetings.
func fill(met square[int], sizes []int) [][]int {
	seated := make([]bool, len(met))
	var tables [][]int
	for _, size := range sizes {
		var table []int
		for range size {
			g := next(met, seated, table)
			seated[g] = true
			table = append(table, g)
		}
		tables = append(tables, table)
	}
	return tables
}

// next returns the guest not yet seated who has met those of a table least. There is one.
func next(met square[int], seated []bool, table []int) int {
	best, least, leastSum := -1, 0, 0
	for g := range met {
		if seated[g] {
			continue
		}
		most, sum := met.most(g, table), met.sum(g, table)
		if best < 0 || cmp.Or(cmp.Compare(most, least), cmp.Compare(sum, leastSum)) < 0 {
			best, least, leastSum = g, most, sum
		}
	}
	return best
}
