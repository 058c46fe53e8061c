package service_test

import (
	"math"
	"math/rand"
	"testing"

	"trestle/api"
	"trestle/service"
)

// trip returns a trip with some plates and steps.
func trip(plates, steps int, tables ...int) api.Trip {
	return api.Trip{Tables: tables, Plates: plates, Steps: steps}
}

// P11.4: the chapter's example.
func TestTripsOfExample(t *testing.T) {
	p, part := dinner()
	for _, x := range []struct {
		most int
		want []api.Trip
	}{
		{4, []api.Trip{trip(4, 10, 0, 2, 1)}},
		{3, []api.Trip{trip(3, 10, 0, 2), trip(1, 4, 1)}},
		{2, []api.Trip{trip(2, 6, 0), trip(2, 10, 2, 1)}},
		{math.MaxInt, []api.Trip{trip(4, 10, 0, 2, 1)}},
	} {
		got, e := service.Trips(p, part, []int{0, 2, 1}, x.most)
		if !sameTrips(got, x.want) || e != api.OK {
			t.Errorf("most %d: %v, %d", x.most, got, e)
		}
		if i, e := service.CheckTrips(p, part, got, x.most); i != 0 || e != api.OK {
			t.Errorf("most %d: %d, %d", x.most, i, e)
		}
	}
}

// P11.4: of equal sums the fewest trips, of these the one whose first trips have the most tables.
func TestTripsOrder(t *testing.T) {
	for _, x := range []struct {
		spots []spot
		way   []int
		most  int
		want  []api.Trip
	}{
		{nil, nil, 1, nil},
		{loads(1, 1), nil, 1, nil},
		{loads(1, 1), []int{1}, 1, []api.Trip{trip(1, 0, 1)}},
		{loads(1, 1, 1, 1), []int{3, 2, 1, 0}, 4, []api.Trip{trip(4, 0, 3, 2, 1, 0)}},
		{loads(1, 1, 1, 1), []int{3, 2, 1, 0}, 3, []api.Trip{trip(3, 0, 3, 2, 1), trip(1, 0, 0)}},
		{loads(1, 1, 1, 1, 1), []int{0, 1, 2, 3, 4}, 2, []api.Trip{trip(2, 0, 0, 1), trip(2, 0, 2, 3), trip(1, 0, 4)}},
		{loads(3, 1, 1, 3), []int{0, 1, 2, 3}, 4, []api.Trip{trip(4, 0, 0, 1), trip(4, 0, 2, 3)}},
		{loads(2, 1, 1, 3), []int{0, 1, 2, 3}, 4, []api.Trip{trip(4, 0, 0, 1, 2), trip(3, 0, 3)}},
		{loads(1, 1, 2, 2, 2), []int{0, 1, 2, 3, 4}, 4, []api.Trip{trip(4, 0, 0, 1, 2), trip(4, 0, 3, 4)}},
		{loads(1, 1, 3, 2, 2), []int{0, 1, 2, 3, 4}, 4, []api.Trip{trip(2, 0, 0, 1), trip(3, 0, 2), trip(4, 0, 3, 4)}},
		// Both sums are 8: one trip is better than two, though the kitchen is on the way.
		{[]spot{{2, 0, 1}, {0, 0, 1}, {0, 2, 1}}, []int{0, 1, 2}, 3, []api.Trip{trip(3, 8, 0, 1, 2)}},
		{[]spot{{2, 0, 1}, {0, 0, 1}, {0, 2, 1}}, []int{0, 1, 2}, 2, []api.Trip{trip(2, 4, 0, 1), trip(1, 4, 2)}},
		// Two trips of one table and two are shorter than those of two and one.
		{[]spot{{9, 0, 1}, {0, 8, 1}, {0, 9, 1}}, []int{0, 1, 2}, 2, []api.Trip{trip(1, 18, 0), trip(2, 18, 1, 2)}},
		// More trips never are shorter, but here the fewest have to be chosen well.
		{[]spot{{1, 0, 1}, {0, 1, 1}, {0, 2, 1}, {0, 3, 1}, {9, 0, 1}}, []int{0, 1, 2, 3, 4}, 3, []api.Trip{trip(1, 2, 0), trip(3, 6, 1, 2, 3), trip(1, 18, 4)}},
	} {
		p, part := feast(x.spots...)
		if got, e := service.Trips(p, part, x.way, x.most); !sameTrips(got, x.want) || e != api.OK {
			t.Errorf("%v, way %v, most %d: %v, %d", x.spots, x.way, x.most, got, e)
		}
	}
}

// P11.4: the cuts of many ways, of all cuts; CheckTrips accepts them if all tables that are served are on the way.
func TestTripsOfMany(t *testing.T) {
	r := rand.New(rand.NewSource(7))
	cut, refused := 0, 0
	for range 3000 {
		p, part := anyFeast(r, r.Intn(9))
		tables := servedOf(p, part)
		var way []int
		for _, i := range r.Perm(len(tables))[:len(tables)-max(0, min(r.Intn(6)-3, len(tables)))] {
			way = append(way, tables[i])
		}
		most := 1 + r.Intn(6)
		want := cutsModel(p, part, way, most)
		got, e := service.Trips(p, part, way, most)
		if want == nil && len(way) > 0 {
			refused++
			if len(got) != 0 || e != api.ErrRoute {
				t.Fatalf("Trips(%v, %v, %v, %d): %v, %d", p, part, way, most, got, e)
			}
			continue
		}
		if !sameTrips(got, want) || e != api.OK {
			t.Fatalf("Trips(%v, %v, %v, %d): %v, %d, not %v", p, part, way, most, got, e, want)
		}
		if len(got) > 1 {
			cut++
		}
		i, e := service.CheckTrips(p, part, got, most)
		if len(way) == len(tables) && (i != 0 || e != api.OK) || len(way) < len(tables) && (i != len(got) || e != api.ErrRoute) {
			t.Fatalf("CheckTrips(%v, %v, %v, %d): %d, %d", p, part, got, most, i, e)
		}
	}
	if cut < 500 || refused < 100 {
		t.Errorf("only %d were cut, and %d refused", cut, refused)
	}
}

// P11.4: the longest way, of 16 tables.
func TestTripsOfAllTables(t *testing.T) {
	r := rand.New(rand.NewSource(8))
	for range 3 {
		var spots []spot
		for range 16 {
			spots = append(spots, spot{r.Intn(5), r.Intn(5), 1 + r.Intn(4)})
		}
		p, part := feast(spots...)
		way := r.Perm(16)
		want := cutsModel(p, part, way, 9)
		if got, e := service.Trips(p, part, way, 9); !sameTrips(got, want) || e != api.OK {
			t.Errorf("%v, way %v: %v, %d", spots, way, got, e)
		}
	}
}

// P11.4: the errors of Trips, in their order.
func TestTripsErrors(t *testing.T) {
	p, part := feast(loads(2, 1, 0, 3)...)
	for _, x := range []struct {
		way  []int
		most int
		e    api.Errno
	}{
		{nil, 1, api.OK}, {nil, 0, api.ErrArg}, {nil, -1, api.ErrArg}, {nil, math.MinInt, api.ErrArg},
		{[]int{0, 1, 3}, 3, api.OK}, {[]int{0, 1, 3}, 0, api.ErrArg}, {[]int{0, 1, 3}, -5, api.ErrArg},
		{[]int{2}, 9, api.ErrArg}, {[]int{4}, 9, api.ErrArg}, {[]int{-1}, 9, api.ErrArg}, {[]int{math.MaxInt}, 9, api.ErrArg}, {[]int{math.MinInt}, 9, api.ErrArg},
		{[]int{0, 0}, 9, api.ErrArg}, {[]int{0, 1, 3, 0}, 9, api.ErrArg}, {[]int{0, 1, 2}, 9, api.ErrArg},
		{[]int{0, 1, 3}, 2, api.ErrRoute}, {[]int{3}, 2, api.ErrRoute}, {[]int{1}, 1, api.OK}, {[]int{1, 0}, 1, api.ErrRoute}, {[]int{0, 1}, 2, api.OK},
		{[]int{3, 2}, 2, api.ErrArg}, {[]int{3, 3}, 2, api.ErrArg}, {[]int{0, 1, 4}, 1, api.ErrArg}, {[]int{0, 1, 0}, 0, api.ErrArg},
	} {
		got, e := service.Trips(p, part, x.way, x.most)
		if e != x.e || e != api.OK && len(got) != 0 {
			t.Errorf("Trips(%v, %d): %v, %d, not %d", x.way, x.most, got, e, x.e)
		}
	}
}

// P11.4: what CheckTrips refuses: the first wrong trip, or the number of trips if a table is missing.
func TestCheckTripsErrors(t *testing.T) {
	p, part := feast(spot{1, 0, 2}, spot{0, 5, 1}, spot{3, 3, 0}, spot{2, 0, 3})
	good := []api.Trip{trip(5, 4, 3, 0), trip(1, 10, 1)}
	for _, x := range []struct {
		l    []api.Trip
		most int
		i    int
		e    api.Errno
	}{
		{good, 5, 0, api.OK}, {good, math.MaxInt, 0, api.OK}, {[]api.Trip{good[1], good[0]}, 5, 0, api.OK}, {[]api.Trip{trip(6, 14, 0, 3, 1)}, 6, 0, api.OK}, {[]api.Trip{trip(6, 18, 0, 1, 3)}, 6, 0, api.ErrRoute},
		{good, 0, 0, api.ErrArg}, {good, -1, 0, api.ErrArg}, {nil, 0, 0, api.ErrArg}, {[]api.Trip{{}}, 0, 0, api.ErrArg},
		{good, 4, 0, api.ErrRoute}, {[]api.Trip{good[1], good[0]}, 4, 1, api.ErrRoute},
		{nil, 5, 0, api.ErrRoute}, {good[:1], 5, 1, api.ErrRoute}, {good[1:], 5, 1, api.ErrRoute},
		{[]api.Trip{{}, good[0], good[1]}, 5, 0, api.ErrRoute}, {[]api.Trip{good[0], {}, good[1]}, 5, 1, api.ErrRoute}, {[]api.Trip{good[0], good[1], {}}, 5, 2, api.ErrRoute},
		{[]api.Trip{good[0], trip(1, 10, 1, 1)}, 5, 1, api.ErrRoute}, {[]api.Trip{good[0], trip(2, 10, 1, 1)}, 5, 1, api.ErrRoute}, {[]api.Trip{trip(7, 4, 3, 0, 0), good[1]}, 9, 0, api.ErrRoute},
		{[]api.Trip{good[0], good[1], good[1]}, 5, 2, api.ErrRoute}, {[]api.Trip{good[0], trip(3, 12, 1, 0)}, 5, 1, api.ErrRoute},
		{[]api.Trip{good[0], good[1], trip(0, 12, 2)}, 5, 2, api.ErrRoute}, {[]api.Trip{good[0], trip(1, 14, 1, 2)}, 5, 1, api.ErrRoute},
		{[]api.Trip{good[0], trip(1, 10, 4)}, 5, 1, api.ErrRoute}, {[]api.Trip{good[0], trip(1, 10, -1)}, 5, 1, api.ErrRoute}, {[]api.Trip{trip(0, 0, math.MaxInt)}, 5, 0, api.ErrRoute}, {[]api.Trip{trip(0, 0, math.MinInt)}, 5, 0, api.ErrRoute},
		{[]api.Trip{trip(4, 4, 3, 0), good[1]}, 5, 0, api.ErrRoute}, {[]api.Trip{trip(6, 4, 3, 0), good[1]}, 6, 0, api.ErrRoute}, {[]api.Trip{good[0], trip(0, 10, 1)}, 5, 1, api.ErrRoute}, {[]api.Trip{good[0], trip(-1, 10, 1)}, 5, 1, api.ErrRoute},
		{[]api.Trip{trip(5, 3, 3, 0), good[1]}, 5, 0, api.ErrRoute}, {[]api.Trip{good[0], trip(1, 11, 1)}, 5, 1, api.ErrRoute}, {[]api.Trip{good[0], trip(1, -10, 1)}, 5, 1, api.ErrRoute},
	} {
		if i, e := service.CheckTrips(p, part, x.l, x.most); i != x.i || e != x.e {
			t.Errorf("CheckTrips(%v, %d): %d, %d, not %d, %d", x.l, x.most, i, e, x.i, x.e)
		}
	}
	if i, e := service.CheckTrips(api.Problem{}, nil, nil, 1); i != 0 || e != api.OK {
		t.Errorf("nobody, and no trips: %d, %d", i, e)
	}
}

// P11.4: problems and partial plans that are not valid come before all other errors.
func TestTripsOfFails(t *testing.T) {
	for _, x := range allFails(t) {
		for _, most := range []int{0, 1, 9} {
			for _, way := range [][]int{nil, {0, 2, 1}, {9, 9}} {
				if l, e := service.Trips(x.p, x.part, way, most); len(l) != 0 || e != x.e {
					t.Errorf("Trips(%v, %v, %v, %d): %v, %d", x.p, x.part, way, most, l, e)
				}
			}
			for _, l := range [][]api.Trip{nil, {{}}, {trip(4, 10, 0, 2, 1), {}}} {
				if i, e := service.CheckTrips(x.p, x.part, l, most); i != 0 || e != x.e {
					t.Errorf("CheckTrips(%v, %v, %v, %d): %d, %d", x.p, x.part, l, most, i, e)
				}
			}
		}
	}
}
