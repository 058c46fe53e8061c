package court_test

import (
	"math"
	"math/rand"
	"slices"
	"testing"

	"trestle/api"
	"trestle/court"
)

// P3.7: at most one of two goes before the other; going before, and being tied, are passed on from one to the next.
func TestPrecedence(t *testing.T) {
	r := rand.New(rand.NewSource(10))
	for range 2000 {
		c, g := anyCourt(r, r.Intn(9)), crowd(r, 8)
		places := make([]int, len(g))
		for x := range places {
			places[x] = pick(r, 0, 1, 5, 62, 63, r.Intn(64))
		}
		before := make([][]int, len(g))
		for x := range g {
			for y := range g {
				before[x] = append(before[x], court.Compare(c, g[x], g[y], places[x], places[y]))
			}
		}
		for x := range g {
			for y, order := range before[x] {
				if before[y][x] != -order {
					t.Fatalf("%v: %d and %d of %v", c, x, y, g)
				}
				for z := range g {
					if before[y][z] == order && before[x][z] != order {
						t.Fatalf("%v: %d, %d and %d of %v", c, x, y, z, g)
					}
				}
			}
		}
	}
}

// P3.7: a merged text never contradicts its first part; the second part decides where the first one does not.
func TestMergedOrder(t *testing.T) {
	r := rand.New(rand.NewSource(11))
	for range 2000 {
		c, d, g := anyCourt(r, r.Intn(5)), anyCourt(r, r.Intn(5)), crowd(r, 8)
		both, e := court.Merge(c, d)
		if e != api.OK {
			t.Fatal(e)
		}
		for x := range g {
			for y := range g {
				want := court.Compare(c, g[x], g[y], x, y)
				if want == 0 {
					want = court.Compare(d, g[x], g[y], x, y)
				}
				if court.Compare(both, g[x], g[y], x, y) != want {
					t.Fatalf("%v and %v: %d and %d of %v", c, d, x, y, g)
				}
			}
		}
	}
}

// P3.7: in a compromise x is before y if all courts say so, and whom more courts put before each other guest is first; no order
// has fewer disagreements.
func TestFairCompromise(t *testing.T) {
	r := rand.New(rand.NewSource(12))
	firsts := 0
	for range 1500 {
		courts, g := anyCourts(r, r.Intn(8)), crowd(r, 1+r.Intn(7))
		order, n, e := court.Compromise(courts, g)
		if e != api.OK || n != court.Disagreements(courts, g, order) || n != disagreements(courts, g, order) {
			t.Fatalf("%v and %v: %v, %d, %d", courts, g, order, n, e)
		}
		for _, pair := range court.Agree(courts, g) {
			if slices.Index(order, pair[0]) > slices.Index(order, pair[1]) {
				t.Fatalf("%v and %v: %v against %v", courts, g, order, pair)
			}
		}
		for x := range g {
			first := true
			for y := range g {
				votes := 0
				for _, c := range courts {
					votes -= court.Compare(c, g[x], g[y], x, y)
				}
				first = first && (x == y || votes > 0)
			}
			if first && len(g) > 1 {
				firsts++
			}
			if first && order[0] != x {
				t.Fatalf("%v and %v: %d is not first in %v", courts, g, x, order)
			}
		}
		for range 20 {
			if other := r.Perm(len(g)); court.Disagreements(courts, g, other) < n {
				t.Fatalf("%v and %v: %v is better than %v", courts, g, other, order)
			}
		}
	}
	if firsts < 100 {
		t.Errorf("only %d guests who have to be first", firsts)
	}
}

// P3.7: courts that take turns never fall behind by more than one guest while they have guests left.
func TestFairTurns(t *testing.T) {
	r := rand.New(rand.NewSource(13))
	for range 500 {
		g := crowd(r, r.Intn(65))
		courts := make([][]api.Clause, 3)
		own := []string{"spain", "", "france"}
		for k := range courts {
			courts[k] = append(anyCourt(r, r.Intn(4)), api.Clause{Kind: api.ByList})
		}
		order, e := court.Alternate(courts, own, g)
		if e != api.OK {
			t.Fatal(e)
		}
		left, given := map[string]int{}, map[string]int{}
		for _, guest := range g {
			left[guest.Court]++
		}
		for _, x := range order {
			left[g[x].Court]--
			given[g[x].Court]++
			for _, one := range own {
				for _, other := range own {
					if left[one] > 0 && given[one] < given[other]-1 {
						t.Fatalf("%q falls behind %q in %v of %v", one, other, order, g)
					}
				}
			}
		}
	}
}

// P3.7: Parse of what Format returns gives the same clauses, and Format of what Parse returns the same text.
func TestThereAndBack(t *testing.T) {
	r := rand.New(rand.NewSource(14))
	for range 3000 {
		c := anyCourt(r, r.Intn(33))
		text := court.Format(c)
		back, line, e := court.Parse(text)
		if line != 0 || e != api.OK || !sameCourt(back, c) || court.Format(back) != text {
			t.Fatalf("%v: %q gives %v, %d, %d", c, text, back, line, e)
		}
	}
}

// P1: every function answers, whatever its arguments are, and changes none of them.
func TestAnyArgument(t *testing.T) {
	r := rand.New(rand.NewSource(15))
	name := func() string {
		return pick(r, "", "-", "a", "b", "duke", "A", "abcdefghijklm", "\xff", "a b", "a\n", "france")
	}
	number := func() int {
		return pick(r, math.MinInt, -1, 0, 0, 1, 2, 3, 63, 64, math.MaxInt)
	}
	whatever := func() []api.Clause {
		var c []api.Clause
		for range r.Intn(4) {
			x := anyClause(r, c)
			if r.Intn(8) == 0 {
				x = api.Clause{Kind: api.ClauseKind(r.Intn(256)), Among: name(), Last: r.Intn(2) == 0, N: number(), Names: []string{name(), name()}[:r.Intn(3)]}
			}
			c = append(c, x)
		}
		return c
	}
	for range 5000 {
		c, d, g := whatever(), whatever(), crowd(r, r.Intn(9))
		order := make([]int, r.Intn(9))
		for i := range order {
			order[i] = number()
		}
		before := copied(c)
		courts, own := [][]api.Clause{c, d, c}[:r.Intn(4)], []string{name(), name(), name()}[:r.Intn(4)]
		court.Check(c)
		court.Compare(c, anyGuest(r), anyGuest(r), number(), number())
		court.Reason(c, anyGuest(r), anyGuest(r), number(), number())
		court.Order(c, g)
		court.Class(c, g)
		court.Deciding(c, g)
		court.Merge(c, d)
		court.Agree(courts, g)
		court.Conflicts(courts, g)
		court.Disagreements(courts, g, order)
		court.Inversions(order, order)
		court.Parse(name() + " " + name() + "\n")
		if l, e := court.Line(c, g); e == api.OK && len(l) != len(g) {
			t.Fatal(c, g, l)
		}
		if l, e := court.Alternate(courts, own, g); e == api.OK && len(l) != len(g) {
			t.Fatal(courts, own, g, l)
		}
		if l, n, e := court.Compromise(courts, g); e == api.OK && len(l) != len(g) || e != api.OK && (len(l) != 0 || n != 0) {
			t.Fatal(courts, g, l, n, e)
		}
		if _, e := court.Check(c); (court.Format(c) == "") != (e != api.OK || len(c) == 0) || !sameCourt(c, before) {
			t.Fatal(c, e)
		}
	}
}
