package evening

import (
	"iter"

	"trestle/api"
)

// Pairs returns a round robin for tables of two.
func Pairs(n int) ([][][]int, api.Errno) {
	if n < 2 || n > api.MaxGuests {
		return nil, api.ErrSize
	}
	m := n + n%2
	s := make([][][]int, m-1)
	for e := range s {
		s[e] = [][]int{{m - 1, e}}
		if n < m {
			s[e] = [][]int{{e}}
		}
		for i := 1; i < m/2; i++ {
			s[e] = append(s[e], []int{(e + i) % (m - 1), (e - i + m - 1) % (m - 1)})
		}
	}
	return s, api.OK
}

// Rings returns evenings at one table at which each two guests are beside each other once.
func Rings(n int) ([][][]int, api.Errno) {
	switch {
	case n < 3 || n > api.MaxGuests:
		return nil, api.ErrSize
	case n%2 == 0:
		return nil, api.ErrDesign
	}
	m := n / 2
	s := make([][][]int, m)
	for i := range m {
		table := []int{n - 1, i}
		for k := 1; k < m; k++ {
			// Only i - k can leave the numbers from 0 to 2m - 1.
			table = append(table, i+k, (i-k+2*m)%(2*m))
		}
		s[i] = [][]int{append(table, i+m)}
	}
	return s, api.OK
}

// Net returns q evenings for k rows of q guests.
func Net(k, q int) ([][][]int, api.Errno) {
	f, ok := fieldOf(q)
	if !ok || k < 1 || k > q || k*q > api.MaxGuests {
		return nil, api.ErrSize
	}
	s := make([][][]int, q)
	for a := range q {
		for b := range q {
			var table []int
			for r := range k {
				table = append(table, r*q+f.plus(f.times(a, r), 1, b))
			}
			s[a] = append(s[a], table)
		}
	}
	return s, api.OK
}

// Plane returns q + 1 evenings for the square of q guests.
func Plane(q int) ([][][]int, api.Errno) {
	s, e := Net(q, q)
	if e != api.OK {
		return nil, e
	}
	var last [][]int
	for r := range q {
		last = append(last, row(r*q, q))
	}
	return append(s, last), api.OK
}

// Kirkman returns seven evenings for fifteen guests.
func Kirkman() [][][]int {
	const b, z = 7, 14
	// The guests of the first evening: those from b on are b0 to b6.
	first := [5][3]int{{z, 0, b}, {1, 6, b + 5}, {2, 5, b + 3}, {3, 4, b + 6}, {b + 1, b + 2, b + 4}}
	s := make([][][]int, 7)
	for j := range s {
		for _, guests := range first {
			var table []int
			for _, g := range guests {
				if g != z {
					g = g/7*7 + (g+j)%7
				}
				table = append(table, g)
			}
			s[j] = append(s[j], table)
		}
	}
	return s
}

// Design returns a schedule at which no two guests meet more than once.
func Design(n, size, evenings int) ([][][]int, api.Errno) {
	switch {
	case !isParty(n) || size < 1 || n%size != 0:
		return nil, api.ErrSize
	case !isSeason(evenings):
		return nil, api.ErrArg
	case evenings == 0:
		return nil, api.OK
	}
	for s := range designs(n, size) {
		if len(s) >= evenings {
			return s[:evenings], api.OK
		}
	}
	return nil, api.ErrDesign
}

// designs yields the designs of n guests with tables of one size, in the order in which they are preferred. One that does not
// exist has no evenings.
func designs(n, size int) iter.Seq[[][][]int] {
	return func(yield func([][][]int) bool) {
		if size == n && !yield([][][]int{{row(0, n)}}) {
			return
		}
		if size == 1 && !yield(alone(n)) {
			return
		}
		if size == 2 && !yield(known(Pairs(n))) {
			return
		}
		if size == 3 && n == 15 && !yield(Kirkman()) {
			return
		}
		if size*size == n && !yield(known(Plane(size))) {
			return
		}
		yield(known(Net(size, n/size)))
	}
}

// known returns a schedule that may be there or not: without evenings if it is not.
func known(s [][][]int, _ api.Errno) [][][]int { return s }

// alone returns evenings on which each guest sits alone.
func alone(n int) [][][]int {
	s := make([][][]int, MaxEvenings)
	for e := range s {
		for g := range n {
			s[e] = append(s[e], []int{g})
		}
	}
	return s
}

// row returns a number of guests in increasing order.
func row(first, count int) []int {
	list := make([]int, count)
	for i := range list {
		list[i] = first + i
	}
	return list
}
