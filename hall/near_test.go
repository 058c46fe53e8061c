package hall_test

import (
	"math"
	"slices"
	"testing"

	"trestle/api"
	"trestle/hall"
)

// P1.2: the relations of the seats of each table, with other tables before and behind it.
func TestRelations(t *testing.T) {
	for _, x := range sizes() {
		m := modelOf(x)
		l, first := middle(x)
		total := hall.Count(l)
		for a := -1; a <= total; a++ {
			for b := -1; b <= total; b++ {
				pair := [2]int{a - first, b - first}
				at := func(k int) int { i, _, _ := hall.Where(l, k); return i }
				if at(a) != 1 && at(b) != 1 {
					continue
				}
				beside, across := m.beside[pair], m.across[pair]
				if hall.Beside(l, a, b) != beside || hall.Across(l, a, b) != across || hall.Near(l, a, b) != (beside || across) {
					t.Fatalf("%v: seats %d and %d", x, pair[0], pair[1])
				}
			}
		}
	}
}

// P1.2: the distances and neighbours of the seats of each table.
func TestDistances(t *testing.T) {
	for _, x := range sizes() {
		l, first := middle(x)
		for a, row := range modelOf(x).distances() {
			var near []int
			for b, want := range row {
				d, ok := hall.Distance(l, first+a, first+b)
				if ok != (want >= 0) || d != max(want, 0) {
					t.Fatalf("%v: distance of %d and %d is %d, %t, not %d", x, a, b, d, ok, want)
				}
				if want == 1 {
					near = append(near, first+b)
				}
			}
			if got := hall.Neighbours(l, first+a); !slices.Equal(got, near) {
				t.Fatalf("%v: neighbours of %d are %v, not %v", x, a, got, near)
			}
		}
		if _, ok := hall.Distance(l, first-1, first); ok {
			t.Fatalf("%v: distance from table to table", x)
		}
	}
}

// P1.2: blocks are the seats with a distance.
func TestBlocks(t *testing.T) {
	for _, x := range sizes() {
		l, first := middle(x)
		d := modelOf(x).distances()
		var want [][]int
		for a, row := range d {
			if slices.ContainsFunc(row[:a], func(n int) bool { return n >= 0 }) {
				continue
			}
			var block []int
			for b, n := range row {
				if n >= 0 {
					block = append(block, first+b)
				}
			}
			want = append(want, block)
		}
		if got := hall.Blocks(l, 1); !equal(got, want) {
			t.Fatalf("%v: blocks %v, not %v", x, got, want)
		}
	}
	row := []api.Table{{Name: "r", Shape: api.Row, A: 5, B: 2}}
	if !equal(hall.Blocks(row, 0), [][]int{{0, 1}, {2, 3}, {4}}) {
		t.Error("the chapter's example", hall.Blocks(row, 0))
	}
}

// P1.2: open seats are those that their table lists.
func TestOpen(t *testing.T) {
	x := api.Table{Name: "mid", Shape: api.Horseshoe, A: 2, B: 2, Open: []int{0, 3, 5}}
	l, first := middle(x)
	var got []int
	for a := -1; a <= hall.Count(l); a++ {
		if hall.Open(l, a) {
			got = append(got, a-first)
		}
	}
	if !slices.Equal(got, x.Open) {
		t.Error("open seats", got)
	}
}

// P1.2: the edge cases that the chapter names.
func TestNearEdges(t *testing.T) {
	one := []api.Table{round("one", 1)}
	if hall.Beside(one, 0, 0) || hall.Across(one, 0, 0) || hall.Near(one, 0, 0) || len(hall.Neighbours(one, 0)) != 0 {
		t.Error("a seat is near itself")
	}
	if d, ok := hall.Distance(one, 0, 0); d != 0 || !ok {
		t.Error("distance of a seat and itself")
	}
	two := []api.Table{round("two", 2)}
	if !hall.Beside(two, 1, 0) || !hall.Across(two, 0, 1) || !slices.Equal(hall.Neighbours(two, 1), []int{0}) {
		t.Error("two seats both beside and across")
	}
	corner := []api.Table{{Name: "c", Shape: api.Long, A: 2}}
	if hall.Beside(corner, 1, 2) || hall.Beside(corner, 0, 3) || !hall.Beside(corner, 0, 1) || !hall.Across(corner, 0, 3) {
		t.Error("corners without a head")
	}
	pair := []api.Table{{Name: "p", Shape: api.Long, A: 1}}
	if !hall.Across(pair, 0, 1) || hall.Beside(pair, 0, 1) || len(hall.Turns(pair[0])) != 2 {
		t.Error("a long table with two seats")
	}
	shoe := []api.Table{{Name: "s", Shape: api.Horseshoe, A: 2, B: 1}}
	if !hall.Beside(shoe, 0, 1) || !hall.Across(shoe, 0, 3) || hall.Across(shoe, 1, 2) {
		t.Error("a horseshoe with four seats")
	}
	apart := []api.Table{{Name: "r", Shape: api.Row, A: 3, B: 1}}
	if hall.Beside(apart, 0, 1) || len(hall.Blocks(apart, 0)) != 3 {
		t.Error("an aisle after every seat")
	}
	whole := []api.Table{{Name: "r", Shape: api.Row, A: 3, B: 3}}
	if !hall.Beside(whole, 1, 2) || len(hall.Blocks(whole, 0)) != 1 {
		t.Error("an aisle behind the last seat")
	}
}

// P1.3: the order of honour and the levels of each table.
func TestHonour(t *testing.T) {
	for _, x := range sizes() {
		m := modelOf(x)
		l, first := middle(x)
		level := m.distances()[m.honour]
		var want []int
		for k, d := range level {
			if d < 0 {
				level[k] = m.n
			}
			want = append(want, first+k)
			if got := hall.Level(l, first+k); got != level[k] {
				t.Fatalf("%v: level of %d is %d, not %d", x, k, got, level[k])
			}
		}
		slices.SortStableFunc(want, func(a, b int) int { return level[a-first] - level[b-first] })
		got := hall.Honour(l, 1)
		if !slices.Equal(got, want) || got[0] != first+m.honour {
			t.Fatalf("%v: order of honour %v, not %v", x, got, want)
		}
	}
}

// P1.3: the examples of the chapter.
func TestHonourExamples(t *testing.T) {
	for _, x := range []struct {
		t             api.Table
		honour, level []int
	}{
		{api.Table{Name: "a", Shape: api.Long, A: 3, B: 1}, []int{3, 2, 4, 1, 5, 0, 6}, []int{3, 2, 1, 0, 1, 2, 3}},
		{api.Table{Name: "a", Shape: api.Row, A: 5, B: 2}, []int{2, 3, 0, 1, 4}, []int{5, 5, 0, 1, 5}},
		{api.Table{Name: "a", Shape: api.Horseshoe, A: 2, B: 1}, []int{2, 1, 3, 0}, []int{2, 1, 0, 1}},
		{api.Table{Name: "a", Shape: api.Long, A: 3}, []int{1, 0, 2, 4, 3, 5}, []int{1, 0, 1, 2, 1, 2}},
		{api.Table{Name: "a", Shape: api.Round, A: 4}, []int{0, 1, 2, 3}, []int{0, 1, 1, 1}},
	} {
		l := []api.Table{x.t}
		var level []int
		for a := range hall.Count(l) {
			level = append(level, hall.Level(l, a))
		}
		if !slices.Equal(hall.Honour(l, 0), x.honour) || !slices.Equal(level, x.level) {
			t.Errorf("%v: %v, levels %v", x.t, hall.Honour(l, 0), level)
		}
	}
}

// P1.2 and P1.3: seats, tables and halls that do not exist have no relations.
func TestNearOfNothing(t *testing.T) {
	good, _ := middle(round("mid", 4))
	halls := wrong()
	halls["good"] = good
	halls["empty"] = nil
	for what, l := range halls {
		for _, a := range []int{-1, 9, math.MinInt, math.MaxInt, 0} {
			if a == 0 && what == "good" {
				continue
			}
			if hall.Beside(l, a, 1) || hall.Across(l, 2, a) || hall.Near(l, a, 1) || hall.Near(l, a, a) || hall.Open(l, a) {
				t.Errorf("%s: seat %d is near another one", what, a)
			}
			if d, ok := hall.Distance(l, a, a); d != 0 || ok {
				t.Errorf("%s: distance of %d", what, a)
			}
			if len(hall.Neighbours(l, a)) != 0 || hall.Level(l, a) != 0 {
				t.Errorf("%s: neighbours or level of %d", what, a)
			}
			if len(hall.Blocks(l, a)) != 0 || len(hall.Honour(l, a)) != 0 {
				t.Errorf("%s: blocks or honour of table %d", what, a)
			}
		}
	}
}
