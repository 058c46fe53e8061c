package hall

import (
	"iter"
	"slices"

	"trestle/api"
)

// Turns returns the turns of a table in lexicographic order.
func Turns(t api.Table) [][]int {
	if Check(t) != api.OK {
		return nil
	}
	relations := chart(t)
	var list [][]int
	for p := range layoutAt(t).moves(t.A, t.B) {
		if keeps(relations, p) {
			list = append(list, p)
		}
	}
	slices.SortFunc(list, slices.Compare[[]int])
	// At small tables several descriptions give the same permutation.
	return slices.CompactFunc(list, slices.Equal[[]int])
}

// Stay returns the turns of a table that leave some seats where they are.
func Stay(t api.Table, seats []int) [][]int {
	n := Seats(t)
	var list [][]int
	for _, p := range Turns(t) {
		moved := func(k int) bool { return k < 0 || k >= n || p[k] != k }
		if !slices.ContainsFunc(seats, moved) {
			list = append(list, p)
		}
	}
	return list
}

// Compose returns the permutation that does q first and then p.
func Compose(p, q []int) []int {
	if len(p) != len(q) || !isPermutation(p) || !isPermutation(q) {
		return nil
	}
	return permutation(len(q), func(k int) int { return p[q[k]] })
}

// Invert returns the permutation that undoes p.
func Invert(p []int) []int {
	if !isPermutation(p) {
		return nil
	}
	list := make([]int, len(p))
	for k, m := range p {
		list[m] = k
	}
	return list
}

// isPermutation reports whether each number from 0 to len(p) - 1 occurs once in p.
func isPermutation(p []int) bool {
	seen := make([]bool, len(p))
	for _, k := range p {
		if k < 0 || k >= len(p) || seen[k] {
			return false
		}
		seen[k] = true
	}
	return true
}

// permutation returns the list of where n positions go.
func permutation(n int, to func(k int) int) []int {
	p := make([]int, n)
	for k := range p {
		p[k] = to(k)
	}
	return p
}

// relation tells all that a turn keeps of two seats, or of one seat and itself.
type relation struct{ beside, across, open bool }

// chart returns the relation of each two seats of a valid table.
func chart(t api.Table) [][]relation {
	n := seatsOf(t)
	rows := make([][]relation, n)
	for k := range rows {
		rows[k] = make([]relation, n)
		for m := range rows[k] {
			open := k == m && slices.Contains(t.Open, k)
			rows[k][m] = relation{besideAt(t, k, m), acrossAt(t, k, m), open}
		}
	}
	return rows
}

// keeps reports whether a permutation keeps the relations of all seats.
func keeps(relations [][]relation, p []int) bool {
	for k, row := range relations {
		for m, r := range row {
			if relations[p[k]][p[m]] != r {
				return false
			}
		}
	}
	return true
}

// permutations yields the permutations of n positions that some functions describe.
func permutations(n int, moves ...func(k int) int) iter.Seq[[]int] {
	return func(yield func([]int) bool) {
		for _, to := range moves {
			if !yield(permutation(n, to)) {
				return
			}
		}
	}
}

// same leaves a position where it is.
func same(k int) int { return k }

// reversals yields the identity of n positions and their reversal.
func reversals(n int) iter.Seq[[]int] {
	return permutations(n, same, func(k int) int { return n - 1 - k })
}

// roundMoves yields the rotations and reflections of a round table.
func roundMoves(a, _ int) iter.Seq[[]int] {
	return func(yield func([]int) bool) {
		for r := range a {
			rotation := permutation(a, func(k int) int { return (k + r) % a })
			reflection := permutation(a, func(k int) int { return (r - k + a) % a })
			if !yield(rotation) || !yield(reflection) {
				return
			}
		}
	}
}

// longMoves yields the identity and the reflections of a long table.
func longMoves(a, b int) iter.Seq[[]int] {
	isHead := func(k int) bool { return b > 0 && k == a || b == 2 && k == nearHead(a) }
	sides := func(k int) int {
		if isHead(k) {
			return k
		}
		return otherSide(a, b, k)
	}
	ends := func(k int) int {
		switch {
		case isHead(k):
			return a + nearHead(a) - k
		case k < a:
			return a - 1 - k
		}
		// The seats of side two are across from those of side one, so their ends are swapped like these.
		return otherSide(a, b, a-1-otherSide(a, b, k))
	}
	if b == 1 {
		return permutations(2*a+b, same, sides)
	}
	return permutations(2*a+b, same, sides, ends, func(k int) int { return ends(sides(k)) })
}
