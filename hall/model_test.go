package hall_test

import (
	"slices"

	"trestle/api"
)

// model is a table as chapter 1 describes it, written down relation by relation.
type model struct {
	n, honour      int
	beside, across map[[2]int]bool
	moves          [][]int
}

func (m *model) join(relation map[[2]int]bool, a, b int) {
	if a != b {
		relation[[2]int{a, b}], relation[[2]int{b, a}] = true, true
	}
}

func (m *model) near(a, b int) bool { return m.beside[[2]int{a, b}] || m.across[[2]int{a, b}] }

// chain joins each two consecutive seats of a list.
func (m *model) chain(seats []int) {
	for i := 1; i < len(seats); i++ {
		m.join(m.beside, seats[i-1], seats[i])
	}
}

// move adds a permutation that may be a turn.
func (m *model) move(to func(k int) int) {
	p := make([]int, m.n)
	for k := range p {
		p[k] = to(k)
	}
	m.moves = append(m.moves, p)
}

func modelOf(t api.Table) *model {
	m := &model{beside: map[[2]int]bool{}, across: map[[2]int]bool{}}
	switch t.Shape {
	case api.Round:
		m.round(t.A)
	case api.Long:
		m.long(t.A, t.B)
	case api.Horseshoe:
		m.shoe(t.A, t.B)
	case api.Row:
		m.row(t.A, t.B)
	}
	return m
}

func (m *model) round(a int) {
	m.n = a
	for k := range a {
		m.join(m.beside, k, (k+1)%a)
		if a%2 == 0 {
			m.join(m.across, k, (k+a/2)%a)
		}
	}
	for r := range a {
		m.move(func(k int) int { return (k + r) % a })
		m.move(func(k int) int { return (r + a - k) % a })
	}
}

// long walks around the table and gives the seats their numbers.
func (m *model) long(a, b int) {
	var one, two, heads, walk []int
	for range a {
		one = append(one, len(walk))
		walk = append(walk, len(walk))
	}
	if b > 0 {
		heads = append(heads, len(walk))
		walk = append(walk, len(walk))
	}
	for range a {
		two = append(two, len(walk))
		walk = append(walk, len(walk))
	}
	if b > 1 {
		heads = append(heads, len(walk))
		walk = append(walk, len(walk))
	}
	slices.Reverse(two) // now both sides run from the near end to the far end
	m.n, m.honour = len(walk), a/2
	m.chain(one)
	m.chain(two)
	if b > 0 {
		m.honour = heads[0]
		m.chain([]int{one[a-1], heads[0], two[a-1]})
	}
	if b > 1 {
		m.chain([]int{one[0], heads[1], two[0]})
		m.join(m.across, heads[0], heads[1])
	}
	for i := range a {
		m.join(m.across, one[i], two[i])
	}
	m.longMoves(b, one, two, heads)
}

func (m *model) longMoves(b int, one, two, heads []int) {
	a := len(one)
	for _, sides := range []bool{false, true} {
		for _, ends := range []bool{false, true} {
			if ends && b == 1 {
				continue
			}
			to := map[int]int{}
			for i := range a {
				j := i
				if ends {
					j = a - 1 - i
				}
				to[one[i]], to[two[i]] = one[j], two[j]
				if sides {
					to[one[i]], to[two[i]] = two[j], one[j]
				}
			}
			for i, h := range heads {
				to[h] = h
				if ends {
					to[h] = heads[len(heads)-1-i]
				}
			}
			m.move(func(k int) int { return to[k] })
		}
	}
}

func (m *model) shoe(a, b int) {
	m.n, m.honour = a+2*b, b+a/2
	for k := range m.n - 1 {
		m.join(m.beside, k, k+1)
	}
	for k := range b {
		m.join(m.across, k, a+2*b-1-k)
	}
	m.reverse()
}

func (m *model) row(a, b int) {
	m.n, m.honour = a, a/2
	aisle := map[int]bool{}
	for k := b; b > 0 && k < a; k += b {
		aisle[k] = true
	}
	for k := 1; k < a; k++ {
		if !aisle[k] {
			m.join(m.beside, k-1, k)
		}
	}
	m.reverse()
}

func (m *model) reverse() {
	m.move(func(k int) int { return k })
	m.move(func(k int) int { return m.n - 1 - k })
}

// distances returns the distance of each two seats, -1 where it is not defined.
func (m *model) distances() [][]int {
	const far = 1000
	d := make([][]int, m.n)
	for a := range d {
		d[a] = make([]int, m.n)
		for b := range d[a] {
			d[a][b] = far
			if m.near(a, b) {
				d[a][b] = 1
			}
		}
		d[a][a] = 0
	}
	for over := range m.n {
		for a := range m.n {
			for b := range m.n {
				d[a][b] = min(d[a][b], d[a][over]+d[over][b])
			}
		}
	}
	for a := range d {
		for b := range d[a] {
			if d[a][b] >= far {
				d[a][b] = -1
			}
		}
	}
	return d
}

// turns returns the turns of a table with some open seats.
func (m *model) turns(open []int) [][]int {
	var list [][]int
	for _, p := range m.moves {
		if m.kept(p, open) && !slices.ContainsFunc(list, func(q []int) bool { return slices.Equal(p, q) }) {
			list = append(list, p)
		}
	}
	slices.SortFunc(list, slices.Compare[[]int])
	return list
}

func (m *model) kept(p, open []int) bool {
	for a := range m.n {
		if slices.Contains(open, a) != slices.Contains(open, p[a]) {
			return false
		}
		for b := range m.n {
			from, to := [2]int{a, b}, [2]int{p[a], p[b]}
			if m.beside[from] != m.beside[to] || m.across[from] != m.across[to] {
				return false
			}
		}
	}
	return true
}

// sizes returns a table of each shape with each valid size.
func sizes() []api.Table {
	var list []api.Table
	add := func(s api.Shape, a, b int) {
		list = append(list, api.Table{Name: "mid", Shape: s, A: a, B: b})
	}
	for a := 1; a <= 24; a++ {
		add(api.Round, a, 0)
		for b := 0; b <= a; b++ {
			add(api.Row, a, b)
		}
	}
	for a := 1; a <= 11; a++ {
		for b := 0; b <= 2; b++ {
			add(api.Long, a, b)
		}
	}
	for a := 1; a <= 8; a++ {
		for b := 1; b <= 8; b++ {
			add(api.Horseshoe, a, b)
		}
	}
	return list
}

// openings returns some lists of open seats of a table with n seats.
func openings(n int) [][]int {
	all := make([]int, n)
	for k := range all {
		all[k] = k
	}
	var even []int
	for k := 0; k < n; k += 2 {
		even = append(even, k)
	}
	list := [][]int{nil, all, even, {0}, {n - 1}, {n / 2}}
	if n > 1 {
		list = append(list, []int{0, n - 1})
	}
	return list
}

// round returns a round table.
func round(name string, a int) api.Table { return api.Table{Name: name, Shape: api.Round, A: a} }

// middle returns a hall in which a table stands between two others, and the table's first seat.
func middle(t api.Table) ([]api.Table, int) {
	return []api.Table{round("left", 3), t, round("right", 2)}, 3
}

// equal compares lists of lists.
func equal(a, b [][]int) bool { return slices.EqualFunc(a, b, slices.Equal[[]int]) }

// wrong returns halls that are not valid, each for a reason of its own.
func wrong() map[string][]api.Table {
	many := make([]api.Table, 17)
	for i := range many {
		many[i] = round(string(rune('a'+i)), 1)
	}
	return map[string][]api.Table{
		"name":   {round("a", 4), round("B", 4)},
		"shape":  {round("a", 4), round("b", 25)},
		"open":   {round("a", 4), {Name: "b", Shape: api.Round, A: 4, Open: []int{4}}},
		"place":  {round("a", 4), {Name: "b", Shape: api.Round, A: 4, X: 1001}},
		"twice":  {round("a", 4), round("a", 4)},
		"many":   many,
		"no one": {round("a", 4), {}},
	}
}
