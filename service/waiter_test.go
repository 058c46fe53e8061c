package service_test

import (
	"math"
	"math/rand"
	"slices"
	"testing"

	"trestle/api"
	"trestle/service"
)

// P11.5: the chapter's example.
func TestWaitersOfExample(t *testing.T) {
	p, part := dinner()
	if l, most, e := service.Waiters(p, part, 2); !sameLists(l, [][]int{{0}, {1, 2}}) || most != 2 || e != api.OK {
		t.Error("Waiters", l, most, e)
	}
	if n := service.Load(p, part, 2); n != 2 {
		t.Error("Load", n)
	}
}

// P11.5: of equal divisions the first list of waiters, and how great the greatest number of plates is.
func TestWaitersOrder(t *testing.T) {
	for _, x := range []struct {
		spots      []spot
		n          int
		want       [][]int
		most, load int
	}{
		{nil, 1, [][]int{nil}, 0, 0},
		{nil, 9, make([][]int, 9), 0, 0},
		{loads(0, 0), 2, make([][]int, 2), 0, 0},
		{loads(0, 3), 2, [][]int{{1}, nil}, 3, 3},
		{loads(1, 1, 1), 1, [][]int{{0, 1, 2}}, 3, 3},
		{loads(1, 1, 1), 2, [][]int{{0, 1}, {2}}, 2, 2},
		{loads(1, 1, 1), 3, [][]int{{0}, {1}, {2}}, 1, 1},
		{loads(1, 1, 1), 4, [][]int{{0}, {1}, {2}, nil}, 1, 1},
		{loads(1, 1, 2), 2, [][]int{{0, 1}, {2}}, 2, 2},
		{loads(1, 0, 2, 1, 0), 2, [][]int{{0, 3}, {2}}, 2, 2},
		{loads(5, 1, 1), 3, [][]int{{0}, {1, 2}, nil}, 5, 5},
		{loads(5, 1, 1, 1, 1, 1), 2, [][]int{{0}, {1, 2, 3, 4, 5}}, 5, 5},
		{loads(5, 5, 4, 3, 3), 2, [][]int{{0, 1}, {2, 3, 4}}, 10, 10},
		{loads(3, 3, 2, 2, 2), 2, [][]int{{0, 1}, {2, 3, 4}}, 6, 6},
		{loads(4, 4, 4), 2, [][]int{{0, 1}, {2}}, 8, 6},
		{loads(1, 5, 1, 5, 2), 3, [][]int{{0, 2, 4}, {1}, {3}}, 5, 5},
		{loads(7, 7, 7, 7, 7, 7, 7, 7, 7), 4, [][]int{{0, 1, 2}, {3, 4, 5}, {6, 7, 8}, nil}, 21, 16},
		{loads(1, 2, 3, 4, 5, 6, 7, 8, 9), 9, [][]int{{0, 1, 2}, {3, 4}, {5}, {6}, {7}, {8}, nil, nil, nil}, 9, 9},
	} {
		p, part := feast(x.spots...)
		if l, most, e := service.Waiters(p, part, x.n); !sameLists(l, x.want) || most != x.most || e != api.OK {
			t.Errorf("%v, %d waiters: %v, %d, %d", x.spots, x.n, l, most, e)
		}
		if n := service.Load(p, part, x.n); n != x.load {
			t.Errorf("%v, %d waiters: load %d", x.spots, x.n, n)
		}
	}
}

// P11.5: many halls, of all divisions; no greatest number of plates is below Load.
func TestWaitersOfMany(t *testing.T) {
	r := rand.New(rand.NewSource(9))
	for range 2000 {
		p, part := anyFeast(r, r.Intn(6))
		n := 1 + r.Intn(5)
		want, most := divisionModel(p, part, n)
		l, got, e := service.Waiters(p, part, n)
		if !sameLists(l, want) || got != most || e != api.OK {
			t.Fatalf("Waiters(%v, %v, %d): %v, %d, %d, not %v, %d", p, part, n, l, got, e, want, most)
		}
		sum, fullest := 0, 0
		for _, k := range platesOf(p, part) {
			sum, fullest = sum+k, max(fullest, k)
		}
		load := max(int(math.Ceil(float64(sum)/float64(n))), fullest)
		if got := service.Load(p, part, n); got != load || got > most {
			t.Fatalf("Load(%v, %v, %d): %d, not %d", p, part, n, got, load)
		}
	}
}

// P11.5: nine tables, the most that are examined, with few and with many waiters.
func TestWaitersOfNineTables(t *testing.T) {
	r := rand.New(rand.NewSource(10))
	for range 60 {
		var plates []int
		for range 9 {
			plates = append(plates, 1+r.Intn(7))
		}
		p, part := feast(loads(plates...)...)
		for _, n := range []int{2, 3} {
			want, most := divisionModel(p, part, n)
			if l, got, e := service.Waiters(p, part, n); !sameLists(l, want) || got != most || e != api.OK {
				t.Fatalf("%v, %d waiters: %v, %d, %d, not %v, %d", plates, n, l, got, e, want, most)
			}
		}
		if l, got, e := service.Waiters(p, part, 9); len(l) != 9 || got != slices.Max(plates) || e != api.OK {
			t.Fatalf("%v, 9 waiters: %v, %d, %d", plates, l, got, e)
		}
	}
}

// P11.5: how many tables and waiters there may be; only tables count that are served.
func TestWaitersErrors(t *testing.T) {
	for _, x := range []struct {
		spots []spot
		n     int
		e     api.Errno
	}{
		{loads(1, 1), 1, api.OK}, {loads(1, 1), 9, api.OK}, {loads(1, 1), 10, api.ErrLarge}, {loads(1, 1), math.MaxInt, api.ErrLarge},
		{loads(1, 1), 0, api.ErrArg}, {loads(1, 1), -1, api.ErrArg}, {loads(1, 1), math.MinInt, api.ErrArg},
		{nil, 0, api.ErrArg}, {nil, 10, api.ErrLarge}, {nil, 9, api.OK},
		{loads(1, 1, 1, 1, 1, 1, 1, 1, 1), 1, api.OK}, {loads(1, 1, 1, 1, 1, 1, 1, 1, 1, 1), 1, api.ErrLarge}, {loads(1, 1, 1, 1, 1, 1, 1, 1, 1, 1), 0, api.ErrArg},
		{loads(1, 1, 0, 1, 1, 0, 1, 1, 1, 1, 0, 1), 9, api.OK}, {loads(1, 1, 1, 1, 1, 1, 1, 1, 1, 1, 1, 1, 1, 1, 1, 1), 9, api.ErrLarge},
	} {
		p, part := feast(x.spots...)
		l, most, e := service.Waiters(p, part, x.n)
		if e != x.e || e != api.OK && (len(l) != 0 || most != 0) {
			t.Errorf("%v, %d waiters: %v, %d, %d", x.spots, x.n, l, most, e)
		}
	}
}

// P11.5: Load has no limits: of many waiters and tables it is the fullest table.
func TestLoad(t *testing.T) {
	p, part := feast(loads(4, 4, 4, 4, 4, 4, 4, 4, 4, 4, 4, 4, 4, 4, 4, 4)...)
	for _, x := range []struct{ n, load int }{
		{math.MinInt, 0}, {-1, 0}, {0, 0}, {1, 64}, {2, 32}, {3, 22}, {5, 13}, {9, 8}, {10, 7}, {15, 5}, {16, 4}, {17, 4}, {64, 4}, {65, 4}, {math.MaxInt - 1, 4}, {math.MaxInt, 4},
	} {
		if n := service.Load(p, part, x.n); n != x.load {
			t.Errorf("%d waiters: %d", x.n, n)
		}
	}
	if n := service.Load(api.Problem{}, nil, math.MaxInt); n != 0 {
		t.Error("load of nothing", n)
	}
}

// P11.5: problems and partial plans that are not valid come before all other errors.
func TestWaitersOfFails(t *testing.T) {
	for _, x := range allFails(t) {
		for _, n := range []int{-1, 0, 1, 9, 10} {
			if l, most, e := service.Waiters(x.p, x.part, n); len(l) != 0 || most != 0 || e != x.e {
				t.Errorf("Waiters(%v, %v, %d): %v, %d, %d", x.p, x.part, n, l, most, e)
			}
			if k := service.Load(x.p, x.part, n); k != 0 {
				t.Errorf("Load(%v, %v, %d): %d", x.p, x.part, n, k)
			}
		}
	}
}
