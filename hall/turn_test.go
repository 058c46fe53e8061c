package hall_test

import (
	"math"
	"slices"
	"testing"

	"trestle/api"
	"trestle/hall"
)

// P1.4: the turns of each table, with several lists of open seats.
func TestTurns(t *testing.T) {
	for _, x := range sizes() {
		m := modelOf(x)
		for _, open := range openings(m.n) {
			x.Open = open
			want := m.turns(open)
			if got := hall.Turns(x); !equal(got, want) {
				t.Fatalf("%v: turns %v, not %v", x, got, want)
			}
		}
	}
}

// P1.4: the examples of the chapter.
func TestTurnsExamples(t *testing.T) {
	for _, x := range []struct {
		t    api.Table
		want [][]int
	}{
		{api.Table{Name: "a", Shape: api.Long, A: 3, B: 1}, [][]int{{0, 1, 2, 3, 4, 5, 6}, {6, 5, 4, 3, 2, 1, 0}}},
		{api.Table{Name: "a", Shape: api.Round, A: 4, Open: []int{1}}, [][]int{{0, 1, 2, 3}, {2, 1, 0, 3}}},
		{api.Table{Name: "a", Shape: api.Row, A: 5, B: 2}, [][]int{{0, 1, 2, 3, 4}}},
		{api.Table{Name: "a", Shape: api.Row, A: 4, B: 2}, [][]int{{0, 1, 2, 3}, {3, 2, 1, 0}}},
		{api.Table{Name: "a", Shape: api.Horseshoe, A: 2, B: 1}, [][]int{{0, 1, 2, 3}, {3, 2, 1, 0}}},
		{api.Table{Name: "a", Shape: api.Long, A: 1}, [][]int{{0, 1}, {1, 0}}},
		{api.Table{Name: "a", Shape: api.Long, A: 2}, [][]int{{0, 1, 2, 3}, {1, 0, 3, 2}, {2, 3, 0, 1}, {3, 2, 1, 0}}},
		{api.Table{Name: "a", Shape: api.Round, A: 1}, [][]int{{0}}},
		{api.Table{Name: "a", Shape: api.Row, A: 1}, [][]int{{0}}},
		{api.Table{Name: "a", Shape: api.Round, A: 2}, [][]int{{0, 1}, {1, 0}}},
		{api.Table{Name: "a", Shape: api.Round, A: 2, Open: []int{0}}, [][]int{{0, 1}}},
		{api.Table{Name: "a", Shape: api.Round, A: 25}, nil},
		{api.Table{Name: "", Shape: api.Round, A: 4}, nil},
		{api.Table{}, nil},
	} {
		if got := hall.Turns(x.t); !equal(got, x.want) {
			t.Errorf("%v: %v, not %v", x.t, got, x.want)
		}
	}
}

// P1.4: Stay returns the turns that leave the seats where they are.
func TestStay(t *testing.T) {
	for _, x := range sizes() {
		turns := hall.Turns(x)
		n := hall.Seats(x)
		for _, seats := range append(openings(n), []int{n - 1, 0, n - 1}, []int{n / 2, n / 2}) {
			var want [][]int
			for _, p := range turns {
				if !slices.ContainsFunc(seats, func(k int) bool { return p[k] != k }) {
					want = append(want, p)
				}
			}
			if got := hall.Stay(x, seats); !equal(got, want) {
				t.Fatalf("%v: Stay(%v) is %v, not %v", x, seats, got, want)
			}
		}
	}
}

// P1.4: examples of Stay, with seats that do not exist.
func TestStayExamples(t *testing.T) {
	ring := round("a", 4)
	identity := []int{0, 1, 2, 3}
	for _, x := range []struct {
		t     api.Table
		seats []int
		want  [][]int
	}{
		{ring, []int{0}, [][]int{identity, {0, 3, 2, 1}}},
		{ring, []int{2, 0, 2}, [][]int{identity, {0, 3, 2, 1}}},
		{ring, []int{0, 1}, [][]int{identity}},
		{ring, []int{4}, nil},
		{ring, []int{-1}, nil},
		{ring, []int{0, 1, math.MaxInt}, nil},
		{ring, []int{math.MinInt, 0}, nil},
		{api.Table{Name: "a", Shape: api.Round, A: 4, B: 1}, []int{0}, nil},
		{api.Table{Name: "a", Shape: api.Round, A: 4, B: 1}, nil, nil},
	} {
		if got := hall.Stay(x.t, x.seats); !equal(got, x.want) {
			t.Errorf("Stay(%v, %v) is %v", x.t, x.seats, got)
		}
	}
	if !equal(hall.Stay(ring, nil), hall.Turns(ring)) || !equal(hall.Stay(ring, []int{}), hall.Turns(ring)) {
		t.Error("Stay without seats")
	}
}

// orders returns all permutations of 0 to n - 1 in lexicographic order.
func orders(n int) [][]int {
	list := [][]int{{}}
	for range n {
		var longer [][]int
		for _, p := range list {
			for k := range n {
				if !slices.Contains(p, k) {
					longer = append(longer, append(slices.Clone(p), k))
				}
			}
		}
		list = longer
	}
	return list
}

// P1.5: Compose and Invert of all small permutations.
func TestComposeInvert(t *testing.T) {
	for n := range 6 {
		for _, p := range orders(n) {
			back := hall.Invert(p)
			for k := range p {
				if len(back) != n || back[p[k]] != k {
					t.Fatalf("Invert(%v) is %v", p, back)
				}
			}
			for _, q := range orders(n) {
				r := hall.Compose(p, q)
				if len(r) != n {
					t.Fatalf("Compose(%v, %v) is %v", p, q, r)
				}
				for k := range r {
					if r[k] != p[q[k]] {
						t.Fatalf("Compose(%v, %v) is %v", p, q, r)
					}
				}
			}
		}
	}
	if !slices.Equal(hall.Compose([]int{1, 2, 0}, []int{1, 0, 2}), []int{2, 1, 0}) {
		t.Error("which one is done first")
	}
}

// P1.5: lists that are not permutations, or differ in length.
func TestNoPermutation(t *testing.T) {
	good := []int{2, 0, 1}
	for _, bad := range [][]int{{0, 0, 1}, {1, 2, 3}, {0, 1, -1}, {0, 1, math.MaxInt}, {0, 1, math.MinInt}} {
		if len(hall.Invert(bad)) != 0 || len(hall.Compose(good, bad)) != 0 || len(hall.Compose(bad, good)) != 0 || len(hall.Compose(bad, bad)) != 0 {
			t.Errorf("%v is taken for a permutation", bad)
		}
	}
	for _, other := range [][]int{nil, {}, {0}, {0, 1}, {0, 1, 2, 3}} {
		if len(hall.Compose(good, other)) != 0 || len(hall.Compose(other, good)) != 0 {
			t.Errorf("%v fits %v", other, good)
		}
	}
	if len(hall.Invert(nil)) != 0 || len(hall.Compose(nil, []int{})) != 0 {
		t.Error("the permutation of nothing")
	}
}
