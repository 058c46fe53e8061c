package service_test

import (
	"math"
	"math/rand"
	"slices"
	"testing"

	"trestle/api"
	"trestle/service"
)

// P11.3: the chapter's examples.
func TestWaysOfExample(t *testing.T) {
	p, part := dinner()
	if way, n, e := service.Route(p, part); !slices.Equal(way, []int{0, 2, 1}) || n != 10 || e != api.OK {
		t.Error("Route", way, n, e)
	}
	if n := service.Span(p, part); n != 7 {
		t.Error("Span", n)
	}
}

// P11.3: the steps between tables and the kitchen, both ways.
func TestSteps(t *testing.T) {
	p, _ := feast(spot{0, 0, 0}, spot{1000, 1000, 0}, spot{0, 1000, 0}, spot{7, 3, 0}, spot{4, 9, 0})
	for _, x := range []struct{ a, b, n int }{
		{-1, -1, 0}, {-1, 0, 0}, {-1, 1, 2000}, {-1, 2, 1000}, {-1, 3, 10}, {0, 1, 2000}, {1, 2, 1000}, {3, 4, 9}, {3, 3, 0}, {2, 3, 1004}, {1, 4, 1987},
	} {
		for range 2 {
			if n, ok := service.Steps(p, x.a, x.b); n != x.n || !ok {
				t.Errorf("Steps(%d, %d): %d, %v", x.a, x.b, n, ok)
			}
			x.a, x.b = x.b, x.a
		}
	}
	for _, none := range strange() {
		if none >= -1 && none < 5 {
			continue
		}
		for _, other := range strange() {
			n, ok := service.Steps(p, none, other)
			m, fine := service.Steps(p, other, none)
			if n != 0 || ok || m != 0 || fine {
				t.Errorf("Steps(%d, %d): %d, %v, %d, %v", none, other, n, ok, m, fine)
			}
		}
	}
	if n, ok := service.Steps(api.Problem{}, -1, -1); n != 0 || !ok {
		t.Error("from the kitchen to the kitchen", n, ok)
	}
	if _, ok := service.Steps(api.Problem{}, 0, -1); ok {
		t.Error("to a table that is not there")
	}
}

// P11.3: the length of ways, also with a table twice, and with tables that are not served.
func TestLength(t *testing.T) {
	p, _ := feast(spot{0, 0, 0}, spot{1000, 1000, 0}, spot{0, 1000, 1}, spot{7, 3, 0}, spot{4, 9, 0})
	for _, x := range []struct {
		way []int
		n   int
	}{
		{nil, 0}, {[]int{}, 0}, {[]int{0}, 0}, {[]int{3}, 20}, {[]int{3, 3, 3}, 20}, {[]int{3, 4}, 32}, {[]int{4, 3, 4}, 44}, {[]int{1, 2}, 4000}, {[]int{1, 0, 1}, 8000}, {[]int{0, 1, 2, 3, 4}, 2000 + 1000 + 1004 + 9 + 13},
	} {
		if n, e := service.Length(p, x.way); n != x.n || e != api.OK {
			t.Errorf("Length(%v): %d, %d", x.way, n, e)
		}
	}
	for _, none := range strange() {
		if none >= 0 && none < 5 {
			continue
		}
		for _, way := range [][]int{{none}, {0, none}, {none, 4}, {1, none, 1}} {
			if n, e := service.Length(p, way); n != 0 || e != api.ErrArg {
				t.Errorf("Length(%v): %d, %d", way, n, e)
			}
		}
	}
	if n, e := service.Length(p, slices.Repeat([]int{1, 0}, 50000)); n != 200000000 || e != api.OK {
		t.Errorf("a long way: %d, %d", n, e)
	}
	if n, e := service.Length(api.Problem{}, []int{0}); n != 0 || e != api.ErrArg {
		t.Error("a table that is not there", n, e)
	}
}

// P11.3: of equally short routes the first one, and only tables that are served.
func TestRouteOrder(t *testing.T) {
	for _, x := range []struct {
		spots []spot
		way   []int
		n     int
	}{
		{nil, nil, 0},
		{[]spot{{5, 5, 0}}, nil, 0},
		{[]spot{{5, 5, 0}, {1000, 1000, 1}}, []int{1}, 4000},
		{[]spot{{0, 0, 1}, {0, 0, 1}, {0, 0, 2}}, []int{0, 1, 2}, 0},
		{[]spot{{2, 0, 1}, {1, 0, 1}, {0, 0, 1}}, []int{0, 1, 2}, 4},
		{[]spot{{2, 0, 1}, {1, 0, 1}, {3, 0, 1}}, []int{0, 2, 1}, 6},
		{[]spot{{1, 0, 1}, {0, 1, 1}, {9, 9, 0}, {1, 1, 1}}, []int{0, 3, 1}, 4},
		{[]spot{{9, 9, 1}, {1, 0, 1}, {0, 1, 1}}, []int{1, 0, 2}, 36},
		{[]spot{{0, 9, 1}, {9, 0, 1}, {0, 0, 1}, {9, 9, 1}}, []int{0, 3, 1, 2}, 36},
	} {
		p, part := feast(x.spots...)
		if way, n, e := service.Route(p, part); !slices.Equal(way, x.way) || n != x.n || e != api.OK {
			t.Errorf("%v: %v, %d, %d", x.spots, way, n, e)
		}
	}
}

// P11.3: the routes of many halls, of all orders of their tables.
func TestRouteOfMany(t *testing.T) {
	r := rand.New(rand.NewSource(4))
	for i := range 1200 {
		p, part := anyFeast(r, r.Intn(7))
		if i%400 == 0 {
			p, part = feast(spot{r.Intn(9), r.Intn(9), 1}, spot{r.Intn(9), r.Intn(9), 2}, spot{5, 5, 0}, spot{r.Intn(9), r.Intn(9), 1}, spot{r.Intn(9), r.Intn(9), 1}, spot{r.Intn(9), r.Intn(9), 1}, spot{r.Intn(9), r.Intn(9), 1}, spot{r.Intn(9), r.Intn(9), 1}, spot{r.Intn(9), r.Intn(9), 1})
		}
		want, steps := routeModel(p, part)
		if way, n := routeOf(t, p, part); !slices.Equal(way, want) || n != steps {
			t.Fatalf("Route(%v, %v): %v, %d, not %v, %d", p, part, way, n, want, steps)
		}
	}
}

// shortest returns the length of a shortest way over all tables of a hall, found with sets of tables.
func shortest(p api.Problem) int {
	n := len(p.Tables)
	least := make([][]int, 1<<n)
	for set := range least {
		least[set] = slices.Repeat([]int{math.MaxInt / 2}, n)
		for last := range n {
			if set == 1<<last {
				least[set][last] = gap(p, -1, last)
			}
			for before := range n {
				if set>>last&1 == 1 && before != last && set>>before&1 == 1 {
					least[set][last] = min(least[set][last], least[set&^(1<<last)][before]+gap(p, before, last))
				}
			}
		}
	}
	all := math.MaxInt
	for last := range n {
		all = min(all, least[1<<n-1][last]+gap(p, last, -1))
	}
	return all
}

// P11.3: routes of nine tables, the most that are examined.
func TestLongRoutes(t *testing.T) {
	r := rand.New(rand.NewSource(5))
	for i := range 150 {
		var spots []spot
		from, wide := r.Intn(800), pick(r, 2, 9, 200)
		for range 9 {
			spots = append(spots, spot{from + r.Intn(wide), from + r.Intn(wide), 1 + i%3})
		}
		p, part := feast(spots...)
		want := shortest(p)
		way, n := routeOf(t, p, part)
		sorted := slices.Sorted(slices.Values(way))
		if n != want || round(p, way) != want || !slices.Equal(sorted, []int{0, 1, 2, 3, 4, 5, 6, 7, 8}) {
			t.Fatalf("%v: %v, %d, not %d", spots, way, n, want)
		}
	}
}

// P11.3: how many tables a route may have; only those count that are served.
func TestRouteLimit(t *testing.T) {
	for k := 8; k <= 16; k++ {
		p, part := feast(slices.Repeat([]spot{{3, 4, 1}}, k)...)
		way, n, e := service.Route(p, part)
		if k <= service.MaxStops && (len(way) != k || n != 14 || e != api.OK) {
			t.Errorf("%d tables: %v, %d, %d", k, way, n, e)
		}
		if k > service.MaxStops && (len(way) != 0 || n != 0 || e != api.ErrLarge) {
			t.Errorf("%d tables: %v, %d, %d", k, way, n, e)
		}
		if n := service.Span(p, part); n != 7 {
			t.Errorf("%d tables: span %d", k, n)
		}
	}
	p, part := feast(append(slices.Repeat([]spot{{3, 4, 2}}, 9), slices.Repeat([]spot{{8, 8, 0}}, 7)...)...)
	if way, n, e := service.Route(p, part); !slices.Equal(way, []int{0, 1, 2, 3, 4, 5, 6, 7, 8}) || n != 14 || e != api.OK {
		t.Errorf("9 of 16 tables: %v, %d, %d", way, n, e)
	}
}

// P11.3: the span of many halls, of all ways to join their tables.
func TestSpanOfMany(t *testing.T) {
	r := rand.New(rand.NewSource(6))
	for range 700 {
		p, part := anyFeast(r, r.Intn(6))
		if n, want := service.Span(p, part), spanModel(p, part); n != want {
			t.Fatalf("Span(%v, %v): %d, not %d", p, part, n, want)
		}
	}
}

// P11.3: the span is not limited, does not follow a way, and asks only for tables that are served.
func TestSpan(t *testing.T) {
	for _, x := range []struct {
		spots []spot
		n     int
	}{
		{nil, 0}, {[]spot{{9, 9, 0}}, 0}, {[]spot{{1000, 1000, 1}}, 2000}, {[]spot{{0, 0, 1}, {0, 0, 2}}, 0},
		{[]spot{{5, 5, 1}, {4, 5, 1}, {6, 5, 1}, {5, 4, 1}, {5, 6, 1}}, 9 + 1 + 1 + 1 + 1},
		{[]spot{{5, 5, 0}, {4, 5, 1}, {6, 5, 1}, {5, 4, 1}, {5, 6, 1}}, 9 + 2 + 2 + 2},
		{[]spot{{3, 0, 1}, {0, 3, 1}}, 6}, {[]spot{{3, 1, 1}, {1, 3, 1}}, 8}, {[]spot{{3, 2, 1}, {2, 3, 1}}, 7},
		{[]spot{{1, 0, 1}, {2, 0, 1}, {3, 0, 1}, {4, 0, 1}, {5, 0, 1}, {6, 0, 1}, {7, 0, 1}, {8, 0, 1}, {9, 0, 1}, {10, 0, 1}, {11, 0, 1}, {12, 0, 1}, {13, 0, 1}, {14, 0, 1}, {15, 0, 1}, {16, 0, 1}}, 16},
	} {
		p, part := feast(x.spots...)
		if n := service.Span(p, part); n != x.n {
			t.Errorf("%v: %d, not %d", x.spots, n, x.n)
		}
	}
}

// P11.3: problems and partial plans that are not valid.
func TestWaysOfFails(t *testing.T) {
	for _, x := range fails(t) {
		if n, ok := service.Steps(x.p, -1, -1); n != 0 || ok {
			t.Errorf("Steps(%v): %d, %v", x.p, n, ok)
		}
		for _, way := range [][]int{nil, {0}, {0, 1}, {99}} {
			if n, e := service.Length(x.p, way); n != 0 || e != x.e {
				t.Errorf("Length(%v, %v): %d, %d", x.p, way, n, e)
			}
		}
	}
	for _, x := range allFails(t) {
		if way, n, e := service.Route(x.p, x.part); len(way) != 0 || n != 0 || e != x.e {
			t.Errorf("Route(%v, %v): %v, %d, %d", x.p, x.part, way, n, e)
		}
		if n := service.Span(x.p, x.part); n != 0 {
			t.Errorf("Span(%v, %v): %d", x.p, x.part, n)
		}
	}
}
