package court_test

import (
	"math"
	"math/rand"
	"slices"
	"strings"
	"testing"

	"trestle/api"
	"trestle/court"
)

// wrongNames are texts that are no names.
var wrongNames = []string{"-", "abcdefghijklm", "Ann", "anN", "aNn", "ann1", "an n", "ann\n", "an`", "an{", "äan", "\xff", "\x00", strings.Repeat("a", 100000)}

// names returns n names in increasing order, of 1 to 12 letters, some of them the beginnings of others.
func names(n int) []string {
	var list []string
	for i := range n {
		list = append(list, strings.Repeat(string(rune('a'+i/12)), 1+i%12))
	}
	return list
}

// pick returns one of some values.
func pick[T any](r *rand.Rand, values ...T) T { return values[r.Intn(len(values))] }

// some returns 1 to n of some values, each once at most, in any order.
func some[T any](r *rand.Rand, n int, values ...T) []T {
	var list []T
	for _, i := range r.Perm(len(values))[:1+r.Intn(n)] {
		list = append(list, values[i])
	}
	return list
}

var ranks, tongues, senders = []string{"count", "duke", "king", "page"}, []string{"danish", "greek", "latin"}, []string{"france", "spain"}

// anyGuest returns a guest, not always a valid one, of whom many are alike.
func anyGuest(r *rand.Rand) api.Guest {
	g := api.Guest{Name: pick(r, "", "a", "aa", "b", "B", "\xff"), Rank: pick(r, append(ranks, "", "Q")...), Court: pick(r, append(senders, "", "?")...)}
	g.Since, g.Side, g.Host = pick(r, 0, 0, 1, 2, 1700, 9999, -1, math.MinInt, math.MaxInt), pick(r, 0, 1, 2, 3, -1), pick(r, true, false)
	for range r.Intn(3) {
		g.Tongues = append(g.Tongues, pick(r, append(tongues, "", "Z")...))
	}
	return g
}

// crowd returns n such guests.
func crowd(r *rand.Rand, n int) []api.Guest {
	list := make([]api.Guest, n)
	for i := range list {
		list[i] = anyGuest(r)
	}
	return list
}

// anyClause returns a clause that is valid after others.
func anyClause(r *rand.Rand, before []api.Clause) api.Clause {
	x := api.Clause{Kind: api.ClauseKind(1 + r.Intn(10))}
	switch x.Kind {
	case api.ByRank:
		x.Names = some(r, 3, ranks...)
		return x
	case api.BySide:
		x.N, x.Last = 1+r.Intn(2), pick(r, true, false)
	case api.ByHost:
		x.Last = pick(r, true, false)
	case api.ByTongue:
		x.Names, x.Last = some(r, 2, tongues...), pick(r, true, false)
	case api.ByCourt:
		x.Names, x.Last = some(r, 1, senders...), pick(r, true, false)
	case api.ByLot:
		x.N = r.Intn(64)
	}
	var ranked []string
	for _, y := range before {
		if y.Kind == api.ByRank {
			ranked = append(ranked, y.Names...)
		}
	}
	if len(ranked) > 0 && r.Intn(2) == 0 {
		x.Among = pick(r, ranked...)
	}
	return x
}

// anyCourt returns a valid text of n clauses.
func anyCourt(r *rand.Rand, n int) []api.Clause {
	var c []api.Clause
	for range n {
		c = append(c, anyClause(r, c))
	}
	return c
}

// anyCourts returns n texts of some clauses each.
func anyCourts(r *rand.Rand, n int) [][]api.Clause {
	var all [][]api.Clause
	for range n {
		all = append(all, anyCourt(r, r.Intn(5)))
	}
	return all
}

// sameClause compares two clauses; a nil list is an empty list.
func sameClause(x, y api.Clause) bool {
	return x.Kind == y.Kind && x.Among == y.Among && x.Last == y.Last && x.N == y.N && slices.Equal(x.Names, y.Names)
}

// sameCourt compares two texts.
func sameCourt(c, d []api.Clause) bool { return slices.EqualFunc(c, d, sameClause) }

// goesFirst tells by a clause's row alone whether a goes before b.
func goesFirst(x api.Clause, a, b api.Guest, i, j int) bool {
	if x.Among != "" && (a.Rank != x.Among || b.Rank != x.Among) {
		return false
	}
	inside := 0 <= i && i < 64 && 0 <= j && j < 64
	switch x.Kind {
	case api.ByRank:
		for _, rank := range x.Names {
			if a.Rank == rank || b.Rank == rank {
				return a.Rank == rank && b.Rank != rank
			}
		}
		return false
	case api.ByElder:
		return a.Since != 0 && (b.Since == 0 || a.Since < b.Since)
	case api.ByYouth:
		return a.Since != 0 && (b.Since == 0 || a.Since > b.Since)
	case api.ByName:
		return a.Name < b.Name
	case api.ByList:
		return inside && i < j
	case api.ByLot:
		return inside && (i*(2*x.N+1)+x.N)%64 < (j*(2*x.N+1)+x.N)%64
	}
	one, other := isNamed(x, a), isNamed(x, b)
	if x.Last {
		return other && !one
	}
	return one && !other
}

// isNamed tells whether a clause of one of the four kinds that name guests names one.
func isNamed(x api.Clause, g api.Guest) bool {
	named := false
	for _, name := range x.Names {
		named = named || x.Kind == api.ByCourt && g.Court == name || x.Kind == api.ByTongue && slices.Contains(g.Tongues, name)
	}
	return named || x.Kind == api.BySide && g.Side == x.N || x.Kind == api.ByHost && g.Host
}

// reason is Reason, from the rows of a valid text alone.
func reason(c []api.Clause, a, b api.Guest, i, j int) (int, int) {
	for k, x := range c {
		switch {
		case goesFirst(x, a, b, i, j):
			return k, -1
		case goesFirst(x, b, a, j, i):
			return k, 1
		}
	}
	return -1, 0
}

// goesBefore tells whether guest x of a list goes before guest y.
func goesBefore(c []api.Clause, g []api.Guest, x, y int) bool {
	_, order := reason(c, g[x], g[y], x, y)
	return order < 0
}

// classes counts the groups before each guest's one: so many different numbers of guests go before those who go before it.
func classes(c []api.Clause, g []api.Guest) []int {
	ahead := make([]int, len(g))
	for x := range g {
		for y := range g {
			if goesBefore(c, g, y, x) {
				ahead[x]++
			}
		}
	}
	list := make([]int, len(g))
	for x := range g {
		less := map[int]bool{}
		for y := range g {
			if ahead[y] < ahead[x] {
				less[ahead[y]] = true
			}
		}
		list[x] = len(less)
	}
	return list
}

// grouped returns the groups of some classes.
func grouped(class []int) [][]int {
	var all [][]int
	for n := range len(class) {
		var group []int
		for x, of := range class {
			if of == n {
				group = append(group, x)
			}
		}
		if len(group) > 0 {
			all = append(all, group)
		}
	}
	return all
}

// disagreements counts the triples one by one.
func disagreements(courts [][]api.Clause, g []api.Guest, order []int) int {
	n := 0
	for _, c := range courts {
		for k, y := range order {
			for _, x := range order[:k] {
				if goesBefore(c, g, y, x) {
					n++
				}
			}
		}
	}
	return n
}

// orders returns all orders of n numbers in lexicographic order.
func orders(n int) [][]int {
	all := [][]int{{}}
	for range n {
		var longer [][]int
		for _, order := range all {
			for x := range n {
				if !slices.Contains(order, x) {
					longer = append(longer, slices.Concat(order, []int{x}))
				}
			}
		}
		all = longer
	}
	return all
}

// invalid are texts that are not valid.
func invalid() [][]api.Clause {
	return [][]api.Clause{
		{{}},
		{{Kind: 11}},
		{{Kind: api.ByName}, {Kind: api.ByList, N: 1}},
		{{Kind: api.ByName}, {Kind: api.ByRank, Names: []string{"Duke"}}},
		{{Kind: api.ByRank, Names: []string{"duke", "duke"}}},
		{{Kind: api.ByName}, {Kind: api.ByElder, Among: "duke"}},
		slices.Repeat([]api.Clause{{Kind: api.ByName}}, 33),
	}
}

// copied returns a text of its own with the same clauses.
func copied(c []api.Clause) []api.Clause {
	d := slices.Clone(c)
	for i := range d {
		d[i].Names = slices.Clone(c[i].Names)
	}
	return d
}

// check fails if a text is not valid.
func check(t *testing.T, c []api.Clause) {
	t.Helper()
	if i, e := court.Check(c); i != 0 || e != api.OK {
		t.Fatalf("%v: %d, %d", c, i, e)
	}
}
