package court_test

import (
	"math"
	"math/rand"
	"slices"
	"testing"

	"trestle/api"
	"trestle/court"
)

// rings returns three guests, and three courts that order them 0, 1, 2; 1, 2, 0; and 2, 0, 1.
func rings() ([][]api.Clause, []api.Guest) {
	ladder := func(list ...string) []api.Clause { return []api.Clause{{Kind: api.ByRank, Names: list}} }
	return [][]api.Clause{ladder("a", "b", "c"), ladder("b", "c", "a"), ladder("c", "a", "b")}, []api.Guest{{Rank: "a"}, {Rank: "b"}, {Rank: "c"}}
}

// P3.3: a merged text has the clauses of both, in new memory.
func TestMerge(t *testing.T) {
	r := rand.New(rand.NewSource(3))
	for range 2000 {
		c, d := anyCourt(r, r.Intn(20)), anyCourt(r, r.Intn(20))
		before := slices.Concat(copied(c), copied(d))
		both, e := court.Merge(c, d)
		if len(before) > api.MaxClause {
			if e != api.ErrMany || len(both) != 0 {
				t.Fatalf("%d and %d clauses: %v, %d", len(c), len(d), both, e)
			}
			continue
		}
		if e != api.OK || !sameCourt(both, before) {
			t.Fatalf("%v and %v: %v, %d", c, d, both, e)
		}
		check(t, both)
		for i := range both {
			both[i].Kind = 77
			for k := range both[i].Names {
				both[i].Names[k] = "changed"
			}
		}
		if !sameCourt(slices.Concat(c, d), before) {
			t.Fatalf("the merged text shares memory with %v and %v", c, d)
		}
	}
}

// P3.3: each of the two texts has to be valid alone, the first one first.
func TestWrongMerge(t *testing.T) {
	name := []api.Clause{{Kind: api.ByName}}
	for _, c := range invalid() {
		_, want := court.Check(c)
		if both, e := court.Merge(c, name); len(both) != 0 || e != want {
			t.Errorf("%v first: %v, %d", c, both, e)
		}
		if both, e := court.Merge(name, c); len(both) != 0 || e != want {
			t.Errorf("%v second: %v, %d", c, both, e)
		}
		if both, e := court.Merge(slices.Repeat(name, 32), c); len(both) != 0 || e != want {
			t.Errorf("%v behind 32 clauses: %v, %d", c, both, e)
		}
		for _, d := range invalid() {
			if both, e := court.Merge(c, d); len(both) != 0 || e != want {
				t.Errorf("%v and %v: %v, %d", c, d, both, e)
			}
		}
	}
	// Its rank is in a ladder of the first text only.
	if both, e := court.Merge([]api.Clause{{Kind: api.ByRank, Names: []string{"duke"}}}, []api.Clause{{Kind: api.ByElder, Among: "duke"}}); len(both) != 0 || e != api.ErrAmong {
		t.Error("a ladder of the other text", both, e)
	}
	for _, x := range []struct {
		c, d int
		e    api.Errno
	}{{0, 0, api.OK}, {32, 0, api.OK}, {0, 32, api.OK}, {16, 16, api.OK}, {31, 1, api.OK}, {32, 1, api.ErrMany}, {1, 32, api.ErrMany}, {32, 32, api.ErrMany}, {33, 1, api.ErrMany}} {
		both, e := court.Merge(slices.Repeat(name, x.c), slices.Repeat(name, x.d))
		if e != x.e || e == api.OK && len(both) != x.c+x.d || e != api.OK && len(both) != 0 {
			t.Errorf("%d and %d clauses: %v, %d", x.c, x.d, both, e)
		}
	}
}

// P3.4: the chapter's example 6, and courts that have nobody.
func TestAlternate(t *testing.T) {
	g := []api.Guest{{Name: "c", Court: "a", Since: 1}, {Name: "b", Court: "b"}, {Name: "a", Court: "b"}, {Name: "d", Court: "a", Since: 4}, {Name: "e", Court: "b"}, {Name: "f"}}
	name, elder, list := []api.Clause{{Kind: api.ByName}}, []api.Clause{{Kind: api.ByElder}}, []api.Clause{{Kind: api.ByList}}
	for _, x := range []struct {
		courts [][]api.Clause
		names  []string
		order  []int
	}{
		{[][]api.Clause{elder, name}, []string{"a", "b"}, []int{0, 2, 3, 1, 4, 5}},
		{[][]api.Clause{name, elder}, []string{"b", "a"}, []int{2, 0, 1, 3, 4, 5}},
		{[][]api.Clause{list, list}, []string{"b", "a"}, []int{1, 0, 2, 3, 4, 5}},
		{[][]api.Clause{name}, []string{"b"}, []int{2, 1, 4, 0, 3, 5}},
		{[][]api.Clause{nil, name}, []string{"", "b"}, []int{5, 2, 1, 4, 0, 3}},
		{[][]api.Clause{nil, name, nil}, []string{"zara", "b", "abcdefghijkl"}, []int{2, 1, 4, 0, 3, 5}},
		{[][]api.Clause{{{Kind: api.ByLot, N: 40}}}, []string{"b"}, []int{2, 4, 1, 0, 3, 5}}, // the keys of 1, 2 and 4 are 57, 10 and 44
		{nil, nil, []int{0, 1, 2, 3, 4, 5}},
		{[][]api.Clause{}, []string{}, []int{0, 1, 2, 3, 4, 5}},
	} {
		if l, e := court.Alternate(x.courts, x.names, g); e != api.OK || !slices.Equal(l, x.order) {
			t.Errorf("%q: %v, %d, not %v", x.names, l, e, x.order)
		}
	}
	if l, e := court.Alternate([][]api.Clause{name}, []string{"a"}, nil); e != api.OK || len(l) != 0 {
		t.Error("nobody", l, e)
	}
}

// P3.4: the order of turns, whatever the guests are.
func TestAnyTurns(t *testing.T) {
	r := rand.New(rand.NewSource(4))
	for range 3000 {
		g := crowd(r, r.Intn(65))
		all := append([]string{"", "danzig"}, senders...)
		own := some(r, 4, all...)
		courts, tied := make([][]api.Clause, len(own)), false
		queues := make([][]int, len(own))
		for k := range own {
			courts[k] = append(anyCourt(r, r.Intn(5)), pick(r, api.Clause{Kind: api.ByList}, api.Clause{Kind: api.ByLot, N: r.Intn(64)}))
			if r.Intn(20) == 0 {
				courts[k] = anyCourt(r, 2)
			}
			for x := range g {
				if g[x].Court == own[k] {
					queues[k] = append(queues[k], x)
				}
			}
			slices.SortFunc(queues[k], func(x, y int) int {
				_, order := reason(courts[k], g[x], g[y], x, y)
				tied = tied || order == 0 && x != y
				return order
			})
		}
		var want []int
		for range g {
			for k := range queues {
				if len(queues[k]) > 0 {
					want, queues[k] = append(want, queues[k][0]), queues[k][1:]
				}
			}
		}
		for x := range g {
			if !slices.Contains(own, g[x].Court) {
				want = append(want, x)
			}
		}
		got, e := court.Alternate(courts, own, g)
		if tied && (e != api.ErrTied || len(got) != 0) || !tied && (e != api.OK || !slices.Equal(got, want)) {
			t.Fatalf("%v, %q and %v: %v, %d, not %v", courts, own, g, got, e, want)
		}
	}
}

// P3.4: the errors in their order.
func TestWrongTurns(t *testing.T) {
	list, tied, wrong := []api.Clause{{Kind: api.ByList}}, []api.Clause{{Kind: api.ByHost}}, []api.Clause{{Kind: api.ByElder, Among: "duke"}}
	two := []api.Guest{{Court: "a"}, {Court: "a"}, {Court: "b"}}
	lists := slices.Repeat([][]api.Clause{list}, 17)
	for i, x := range []struct {
		courts [][]api.Clause
		names  []string
		g      []api.Guest
		e      api.Errno
	}{
		{lists, names(17), two, api.ErrMany},
		{lists, names(1), two, api.ErrMany},
		{lists[:16], names(16), two, api.OK},
		{lists[:1], names(1), make([]api.Guest, 65), api.ErrMany},
		{lists[:1], nil, make([]api.Guest, 65), api.ErrMany},
		{nil, nil, make([]api.Guest, 65), api.ErrMany},
		{lists[:1], names(1), make([]api.Guest, 64), api.OK},
		{lists[:1], nil, two, api.ErrArg},
		{nil, names(1), two, api.ErrArg},
		{lists[:2], names(1), two, api.ErrArg},
		{lists[:2], names(17), two, api.ErrArg},
		{[][]api.Clause{wrong}, []string{"A", "A"}, two, api.ErrArg},
		{lists[:1], []string{"A"}, two, api.ErrName},
		{lists[:1], []string{"-"}, two, api.ErrName},
		{lists[:1], []string{"abcdefghijklm"}, two, api.ErrName},
		{lists[:1], []string{"abcdefghijkl"}, two, api.OK},
		{lists[:1], []string{""}, two, api.OK},
		{lists[:2], []string{"", ""}, two, api.ErrTwice},
		{lists[:3], []string{"a", "b", "a"}, two, api.ErrTwice},
		{[][]api.Clause{list, wrong}, []string{"A", "A"}, two, api.ErrName},
		{[][]api.Clause{wrong}, []string{"A"}, two, api.ErrName},
		{[][]api.Clause{list, wrong}, []string{"a", "a"}, two, api.ErrTwice},
		{[][]api.Clause{list, tied}, []string{"a", "a"}, two, api.ErrTwice},
		{[][]api.Clause{wrong, list}, []string{"a", "a"}, two, api.ErrAmong},
		{[][]api.Clause{wrong, list}, []string{"a", "A"}, two, api.ErrAmong},
		{[][]api.Clause{wrong, tied}, []string{"b", "a"}, two, api.ErrAmong},
		{[][]api.Clause{tied, wrong}, []string{"a", "b"}, two, api.ErrTied},
		{[][]api.Clause{tied, list}, []string{"a", "a"}, two, api.ErrTied},
		{[][]api.Clause{tied, list}, []string{"a", "A"}, two, api.ErrTied},
		{[][]api.Clause{tied, wrong}, []string{"b", "a"}, two, api.ErrAmong},
		{[][]api.Clause{tied, list}, []string{"b", "a"}, two, api.OK},
		{[][]api.Clause{{{}}}, []string{"a"}, two, api.ErrClause},
		{[][]api.Clause{slices.Repeat(list, 33)}, []string{"a"}, two, api.ErrMany},
	} {
		l, e := court.Alternate(x.courts, x.names, x.g)
		if e != x.e || e != api.OK && len(l) != 0 || e == api.OK && len(l) != len(x.g) {
			t.Errorf("%d: %v, %d, not %d", i, l, e, x.e)
		}
	}
}

// P3.5: the chapter's example 5.
func TestRing(t *testing.T) {
	courts, g := rings()
	if order, n, e := court.Compromise(courts, g); e != api.OK || n != 4 || !slices.Equal(order, []int{0, 1, 2}) {
		t.Error("Compromise", order, n, e)
	}
	if l := court.Agree(courts, g); len(l) != 0 {
		t.Error("Agree", l)
	}
	if l := court.Conflicts(courts, g); !slices.Equal(l, [][2]int{{0, 1}, {0, 2}, {1, 2}}) {
		t.Error("Conflicts", l)
	}
	for _, order := range orders(3) {
		want := 4
		if !slices.ContainsFunc([][]int{{0, 1, 2}, {1, 2, 0}, {2, 0, 1}}, func(l []int) bool { return slices.Equal(l, order) }) {
			want = 5
		}
		if n := court.Disagreements(courts, g, order); n != want {
			t.Errorf("Disagreements of %v: %d", order, n)
		}
	}
}

// P3.5: Agree and Conflicts, whatever the guests are.
func TestPairs(t *testing.T) {
	r := rand.New(rand.NewSource(5))
	for n := range 2000 {
		courts, g := anyCourts(r, r.Intn(5)), crowd(r, r.Intn(8))
		if n%200 == 0 {
			courts, g = anyCourts(r, 16), crowd(r, 64)
		}
		var agree, conflicts [][2]int
		for x := range g {
			for y := range g {
				pro, contra := 0, 0
				for _, c := range courts {
					if goesBefore(c, g, x, y) {
						pro++
					}
					if goesBefore(c, g, y, x) {
						contra++
					}
				}
				if len(courts) > 0 && pro == len(courts) {
					agree = append(agree, [2]int{x, y})
				}
				if x < y && pro > 0 && contra > 0 {
					conflicts = append(conflicts, [2]int{x, y})
				}
			}
		}
		if got := court.Agree(courts, g); !slices.Equal(got, agree) {
			t.Fatalf("Agree(%v, %v): %v, not %v", courts, g, got, agree)
		}
		if got := court.Conflicts(courts, g); !slices.Equal(got, conflicts) {
			t.Fatalf("Conflicts(%v, %v): %v, not %v", courts, g, got, conflicts)
		}
	}
}

// P3.5: Disagreements, whatever the guests and the order are.
func TestDisagreements(t *testing.T) {
	r := rand.New(rand.NewSource(6))
	for n := range 2000 {
		courts, g := anyCourts(r, r.Intn(5)), crowd(r, r.Intn(9))
		if n%200 == 0 {
			courts, g = anyCourts(r, 16), crowd(r, 64)
		}
		order := r.Perm(len(g))
		if got, want := court.Disagreements(courts, g, order), disagreements(courts, g, order); got != want {
			t.Fatalf("Disagreements(%v, %v, %v): %d, not %d", courts, g, order, got, want)
		}
	}
}

// P3.5: Compromise returns the first one of all orders with the fewest disagreements.
func TestCompromise(t *testing.T) {
	r := rand.New(rand.NewSource(7))
	all := map[int][][]int{}
	for n := range 6 {
		all[n] = orders(n)
	}
	for range 1500 {
		courts, g := anyCourts(r, r.Intn(6)), crowd(r, r.Intn(6))
		var best []int
		fewest := math.MaxInt
		for _, order := range all[len(g)] {
			if n := disagreements(courts, g, order); n < fewest {
				best, fewest = order, n
			}
		}
		if order, n, e := court.Compromise(courts, g); e != api.OK || n != fewest || !slices.Equal(order, best) {
			t.Fatalf("Compromise(%v, %v): %v, %d, %d, not %v, %d", courts, g, order, n, e, best, fewest)
		}
	}
}

// P3.5: no courts, no guests, and as many as there may be.
func TestCompromiseLimits(t *testing.T) {
	name, list := []api.Clause{{Kind: api.ByName}}, []api.Clause{{Kind: api.ByList}}
	two := slices.Repeat([][]api.Clause{name}, 17)
	wrong := []api.Clause{{Kind: api.ByElder, Among: "duke"}}
	guests := func(n int) []api.Guest {
		var g []api.Guest
		for i := range n {
			g = append(g, api.Guest{Name: names(n)[n-1-i]})
		}
		return g
	}
	for i, x := range []struct {
		courts [][]api.Clause
		g      []api.Guest
		order  []int
		n      int
		e      api.Errno
	}{
		{nil, nil, nil, 0, api.OK},
		{[][]api.Clause{name}, nil, nil, 0, api.OK},
		{nil, guests(3), []int{0, 1, 2}, 0, api.OK},
		{nil, guests(7), []int{0, 1, 2, 3, 4, 5, 6}, 0, api.OK},
		{[][]api.Clause{name}, guests(1), []int{0}, 0, api.OK},
		{[][]api.Clause{name}, guests(7), []int{6, 5, 4, 3, 2, 1, 0}, 0, api.OK},
		{[][]api.Clause{name, list}, guests(7), []int{0, 1, 2, 3, 4, 5, 6}, 21, api.OK},
		{[][]api.Clause{name, list, name}, guests(7), []int{6, 5, 4, 3, 2, 1, 0}, 21, api.OK},
		{two[:16], guests(7), []int{6, 5, 4, 3, 2, 1, 0}, 0, api.OK},
		{append(slices.Clone(two[:9]), slices.Repeat([][]api.Clause{list}, 7)...), guests(7), []int{6, 5, 4, 3, 2, 1, 0}, 147, api.OK},
		{[][]api.Clause{name}, guests(8), nil, 0, api.ErrLarge},
		{nil, guests(8), nil, 0, api.ErrLarge},
		{nil, make([]api.Guest, 65), nil, 0, api.ErrLarge},
		{two, guests(3), nil, 0, api.ErrMany},
		{two, guests(8), nil, 0, api.ErrMany},
		{slices.Repeat([][]api.Clause{wrong}, 17), guests(3), nil, 0, api.ErrMany},
		{[][]api.Clause{name, wrong}, guests(3), nil, 0, api.ErrAmong},
		{[][]api.Clause{name, wrong}, guests(8), nil, 0, api.ErrAmong},
		{[][]api.Clause{wrong, {{}}}, guests(3), nil, 0, api.ErrAmong},
		{[][]api.Clause{{{}}, wrong}, guests(3), nil, 0, api.ErrClause},
		{[][]api.Clause{slices.Repeat(name, 33)}, guests(3), nil, 0, api.ErrMany},
	} {
		if order, n, e := court.Compromise(x.courts, x.g); !slices.Equal(order, x.order) || n != x.n || e != x.e {
			t.Errorf("%d: %v, %d, %d", i, order, n, e)
		}
	}
}

// P3.5: texts that are not valid, too many of them or of the guests, and orders that are none.
func TestWrongSeveral(t *testing.T) {
	name, list := []api.Clause{{Kind: api.ByName}}, []api.Clause{{Kind: api.ByList}}
	g := []api.Guest{{Name: "b"}, {Name: "a"}}
	zero := func(what string, courts [][]api.Clause, g []api.Guest, order []int) {
		if a, c, n := court.Agree(courts, g), court.Conflicts(courts, g), court.Disagreements(courts, g, order); len(a) != 0 || len(c) != 0 || n != 0 {
			t.Errorf("%s: %v, %v, %d", what, a, c, n)
		}
	}
	for _, c := range invalid() {
		zero("one text", [][]api.Clause{c}, g, []int{0, 1})
		zero("the last text", [][]api.Clause{name, name, list, c}, g, []int{0, 1})
		zero("the first text", [][]api.Clause{c, name, list}, g, []int{0, 1})
	}
	seventeen := append(slices.Repeat([][]api.Clause{name}, 16), list)
	zero("17 courts", seventeen, g, []int{0, 1})
	zero("17 equal courts", slices.Repeat([][]api.Clause{name}, 17), g, []int{0, 1})
	zero("no courts", nil, g, []int{0, 1})
	zero("nobody", [][]api.Clause{name, list}, nil, nil)
	many := make([]api.Guest, 65)
	backwards := make([]int, 65)
	for i := range backwards {
		backwards[i] = 64 - i
	}
	zero("65 guests", [][]api.Clause{list, {{Kind: api.ByLot, N: 9}}}, many, backwards)
	if a, n := court.Agree([][]api.Clause{list}, many[:64]), court.Disagreements([][]api.Clause{list}, many[:64], backwards[1:]); len(a) != 64*63/2 || n != 64*63/2 {
		t.Error("64 guests", len(a), n)
	}
	if c, n := court.Conflicts(seventeen[1:], g), court.Disagreements(seventeen[1:], g, []int{0, 1}); len(c) != 1 || n != 15 {
		t.Error("16 courts", c, n)
	}
	three := []api.Guest{{Name: "c"}, {Name: "b"}, {Name: "a"}}
	for _, order := range [][]int{
		nil, {0}, {1}, {0, 1}, {1, 0}, {0, 2}, {0, 0, 0}, {0, 0, 1}, {1, 1, 0}, {0, 1, 1}, {1, 0, 1}, {2, 0, 2}, {0, 1, 3}, {3, 1, 0}, {-1, 0, 1}, {1, 0, -1},
		{0, 1, 2, 0}, {0, 1, 2, 2}, {0, 1, 2, 3}, {2, 1, 0, 2, 1, 0}, {math.MinInt, 0, math.MaxInt},
	} {
		if n := court.Disagreements([][]api.Clause{name, list}, three, order); n != 0 {
			t.Errorf("%v: %d", order, n)
		}
	}
	if n := court.Disagreements([][]api.Clause{name, list}, three, []int{0, 1, 2}); n != 3 {
		t.Error("an order", n)
	}
	million := make([]api.Guest, 1000000)
	zero("no courts and many guests", nil, million, nil)
	zero("many guests", [][]api.Clause{list}, million, nil)
}

// P3.5: Inversions counts pairs of positions; an index may occur more than once, or not at all.
func TestInversions(t *testing.T) {
	for _, x := range []struct {
		class, order []int
		n            int
	}{
		{nil, nil, 0}, {[]int{1}, nil, 0}, {nil, []int{0}, 0}, {[]int{2, 1, 0}, []int{0, 1, 2}, 3}, {[]int{2, 1, 0}, []int{2, 1, 0}, 0},
		{[]int{2, 1, 0}, []int{0, 1, 2, 0}, 3}, {[]int{1, 1, 1}, []int{0, 1, 2}, 0}, {[]int{2, 1}, []int{0, 0, 1, 1}, 4}, {[]int{2, 1}, []int{0, 1, 0, 1}, 3},
		{[]int{2, 1, 0}, []int{0, 3}, 0}, {[]int{2, 1, 0}, []int{0, 1, 2, 3}, 0}, {[]int{2, 1, 0}, []int{-1, 0, 1, 2}, 0}, {[]int{2, 1, 0}, []int{0, 1, 2, -1}, 0}, {[]int{2, 1, 0}, []int{0, 1, math.MinInt}, 0}, {[]int{2, 1, 0}, []int{0, 1, math.MaxInt}, 0},
		{[]int{math.MaxInt, math.MinInt, -5}, []int{0, 1, 2}, 2}, {[]int{-5, -7}, []int{0, 1}, 1},
	} {
		before := slices.Clone(x.order)
		if n := court.Inversions(x.class, x.order); n != x.n || !slices.Equal(x.order, before) {
			t.Errorf("Inversions(%v, %v): %d, not %d", x.class, x.order, n, x.n)
		}
	}
	r := rand.New(rand.NewSource(8))
	for range 3000 {
		class, order := make([]int, 1+r.Intn(9)), make([]int, r.Intn(40))
		for i := range class {
			class[i] = r.Intn(7) - 3
		}
		want := 0
		for k := range order {
			order[k] = r.Intn(len(class))
			for _, x := range order[:k] {
				if class[x] > class[order[k]] {
					want++
				}
			}
		}
		before := slices.Clone(class)
		if n := court.Inversions(class, order); n != want || !slices.Equal(class, before) {
			t.Fatalf("Inversions(%v, %v): %d, not %d", class, order, n, want)
		}
	}
	// A list that is not checked pair by pair.
	const long = 1000000
	class, order := make([]int, long), make([]int, long)
	for i := range order {
		class[i], order[i] = i, long-1-i
	}
	if n := court.Inversions(class, order); n != long*(long-1)/2 {
		t.Error("a long list", n)
	}
}
