package service_test

import (
	"math"
	"math/rand"
	"reflect"
	"slices"
	"testing"

	"trestle/api"
	"trestle/plan"
	"trestle/service"
)

// P11.7: the length of Route is from Span to twice Span, and that of the way.
func TestRouteAndSpan(t *testing.T) {
	r := rand.New(rand.NewSource(13))
	for range 600 {
		p, part := anyFeast(r, r.Intn(10))
		way, n := routeOf(t, p, part)
		span := service.Span(p, part)
		if long, e := service.Length(p, way); n < span || n > 2*span || long != n || e != api.OK {
			t.Fatalf("%v, %v: route %v of %d, %d steps, span %d", p, part, way, n, long, span)
		}
		for range 20 {
			r.Shuffle(len(way), func(i, j int) { way[i], way[j] = way[j], way[i] })
			if long, _ := service.Length(p, way); long < n {
				t.Fatalf("%v, %v: %v is shorter than %d", p, part, way, n)
			}
		}
	}
}

// P11.7: no cut of a way has a lesser sum than Trips, and the trips are the way.
func TestCutsOfRoute(t *testing.T) {
	r := rand.New(rand.NewSource(14))
	for range 600 {
		p, part := anyFeast(r, r.Intn(10))
		way, _ := routeOf(t, p, part)
		most := max(slices.Max(append(service.Plates(p, part), 1)), r.Intn(9))
		l, e := service.Trips(p, part, way, most)
		if i, f := service.CheckTrips(p, part, l, most); e != api.OK || i != 0 || f != api.OK {
			t.Fatalf("%v, %v, most %d: %v, %d; %d, %d", p, part, most, l, e, i, f)
		}
		var joined []int
		sum, least := 0, 0
		for _, x := range l {
			joined = append(joined, x.Tables...)
			sum += x.Steps
		}
		for _, x := range cutsModel(p, part, way, most) {
			least += x.Steps
		}
		if !slices.Equal(joined, way) || sum != least {
			t.Fatalf("%v, %v: %v is cut into %v, with %d steps", p, part, way, l, sum)
		}
	}
}

// P11.7: no division has a lesser greatest load, and none is below Load; each table that is served has one waiter.
func TestDivisions(t *testing.T) {
	r := rand.New(rand.NewSource(15))
	for range 600 {
		p, part := anyFeast(r, r.Intn(10))
		n := 1 + r.Intn(9)
		l, most, e := service.Waiters(p, part, n)
		plates, load := service.Plates(p, part), service.Load(p, part, n)
		greatest := func(l [][]int) int {
			n := 0
			for _, tables := range l {
				sum := 0
				for _, t := range tables {
					sum += plates[t]
				}
				n = max(n, sum)
			}
			return n
		}
		all := slices.Sorted(slices.Values(slices.Concat(l...)))
		if e != api.OK || greatest(l) != most || most < load || !slices.Equal(all, servedOf(p, part)) {
			t.Fatalf("%v, %v, %d waiters: %v, %d, %d", p, part, n, l, most, e)
		}
		for range 20 {
			other := make([][]int, n)
			for _, t := range all {
				w := r.Intn(n)
				other[w] = append(other[w], t)
			}
			if k := greatest(other); k < most || k < load {
				t.Fatalf("%v, %v: %v has %d, below %d", p, part, other, k, most)
			}
		}
	}
}

// P11.7: images under the group of a table have the same plates, dishes, order of service and routes.
func TestImages(t *testing.T) {
	r := rand.New(rand.NewSource(16))
	turned := 0
	for range 600 {
		p, part := anyFeast(r, 1+r.Intn(9))
		i := r.Intn(len(p.Tables))
		image, e := plan.Act(p, part, i, r.Intn(len(plan.Group(p, i))))
		if e != api.OK {
			t.Fatal(p, part, e)
		}
		if !slices.Equal(part, image) {
			turned++
		}
		if !slices.Equal(service.Plates(p, part), service.Plates(p, image)) || !slices.Equal(service.Dishes(p, part), service.Dishes(p, image)) || !slices.Equal(service.Serve(p, part), service.Serve(p, image)) {
			t.Fatalf("%v: %v and %v", p, part, image)
		}
		one, n := routeOf(t, p, part)
		other, m := routeOf(t, p, image)
		if !slices.Equal(one, other) || n != m {
			t.Fatalf("%v: %v and %v: %v and %v", p, part, image, one, other)
		}
	}
	if turned < 150 {
		t.Errorf("only %d were turned", turned)
	}
}

// R4: results share no memory with arguments or with each other, and no argument is changed.
func TestNewMemory(t *testing.T) {
	p, part := feast(spot{5, 1, 2}, spot{1, 7, 1}, spot{4, 4, 1}, spot{2, 2, 3}, spot{9, 9, 0})
	p.Class = []int{3, 1, 2, 0, 5, 6, 4}
	sameP, samePart := feast(spot{5, 1, 2}, spot{1, 7, 1}, spot{4, 4, 1}, spot{2, 2, 3}, spot{9, 9, 0})
	sameP.Class = slices.Clone(p.Class)
	way := []int{3, 1, 0, 2}
	// spoil overwrites a list and what may stand behind it.
	spoil := func(l []int) {
		l = l[:cap(l)]
		for i := range l {
			l[i] = -77
		}
	}
	for range 2 {
		l, _ := service.Trips(p, part, way, 3)
		if want := []api.Trip{trip(3, 8, 3), trip(1, 16, 1), trip(3, 18, 0, 2)}; !sameTrips(l, want) {
			t.Fatal("Trips", l)
		}
		spoil(l[1].Tables)
		if !slices.Equal(l[0].Tables, []int{3}) || !slices.Equal(l[2].Tables, []int{0, 2}) {
			t.Fatal("trips share memory", l)
		}
		if i, e := service.CheckTrips(p, part, []api.Trip{trip(3, 8, 3), trip(1, 16, 1), trip(3, 18, 0, 2)}, 3); i != 0 || e != api.OK {
			t.Fatal("CheckTrips", i, e)
		}
		division, _, _ := service.Waiters(p, part, 3)
		if want := [][]int{{0, 1}, {2}, {3}}; !sameLists(division, want) {
			t.Fatal("Waiters", division)
		}
		spoil(division[0])
		if !slices.Equal(division[1], []int{2}) || !slices.Equal(division[2], []int{3}) {
			t.Fatal("waiters share memory", division)
		}
		route, _ := routeOf(t, p, part)
		if !slices.Equal(route, []int{0, 2, 1, 3}) {
			t.Fatal("Route", route)
		}
		spoil(route)
		spoil(service.Plates(p, part))
		spoil(service.Serve(p, part))
		parsed, _, _ := service.ParseTrips(p, "trip 1 2 ta tb tc\ntrip 1 2 td\n")
		spoil(parsed[0].Tables)
		if !slices.Equal(parsed[1].Tables, []int{3}) {
			t.Fatal("parsed trips share memory", parsed)
		}
		service.Span(p, part)
		if !reflect.DeepEqual(p, sameP) || !slices.Equal(part, samePart) || !slices.Equal(way, []int{3, 1, 0, 2}) {
			t.Fatal("an argument is changed", p, part, way)
		}
	}
}

// P1: every function answers, whatever its arguments are; with an error it answers nothing else.
func TestAnyArgument(t *testing.T) {
	r := rand.New(rand.NewSource(17))
	number := func() int { return pick(r, strange()...) }
	numbers := func() []int {
		list := make([]int, r.Intn(8))
		for i := range list {
			list[i] = number()
		}
		return list
	}
	name := func() string { return pick(r, "", "-", "a", "aa", "top", "sun", "A", "\xff", "a b", "a\n") }
	for range 5000 {
		p, part := anyFeast(r, r.Intn(17))
		switch r.Intn(8) {
		case 0:
			p.Class = numbers()
		case 1:
			p.Tables = append(p.Tables, api.Table{Name: name(), Shape: api.Shape(r.Intn(6)), A: number(), B: number(), Open: numbers(), X: number(), Y: number()})
		case 2:
			p.Guests = append(p.Guests, api.Guest{Name: name(), Side: number(), Since: number(), Diet: name()})
		case 3:
			p.Rules = append(p.Rules, api.Rule{Kind: api.RuleKind(r.Intn(20)), Weight: number(), A: name(), B: name(), Table: name(), N: number()})
		case 4:
			part = numbers()
		}
		_, e := plan.CheckPart(p, part)
		invalid := e != api.OK
		card, chart := service.Card(p, part, number()), service.Chart(p, part, number())
		texts := card + chart + service.Cards(p, part) + service.Names(p, part)
		lists := len(service.Plates(p, part)) + len(service.Dishes(p, part)) + len(service.Serve(p, part))
		if n := service.Span(p, part) + service.Load(p, part, number()); invalid && (texts != "" || lists != 0 || n != 0) {
			t.Fatalf("%v, %v: %q, %d, %d", p, part, texts, lists, n)
		}
		silent := func(what string, length, n int, f api.Errno) {
			if f != api.OK && (length != 0 || n != 0) || invalid && f != e {
				t.Fatalf("%s(%v, %v) with error %d: %d, %d", what, p, part, f, length, n)
			}
		}
		if n, ok := service.Steps(p, number(), number()); !ok && n != 0 {
			t.Fatalf("Steps(%v): %d", p, n)
		}
		way, n, f := service.Route(p, part)
		silent("Route", len(way), n, f)
		if f != api.OK {
			way = numbers()
		}
		if n, f := service.Length(p, way); f != api.OK && n != 0 {
			t.Fatalf("Length(%v, %v): %d, %d", p, way, n, f)
		}
		l, f := service.Trips(p, part, way, number())
		silent("Trips", len(l), 0, f)
		l = append(l, trip(number(), number(), numbers()...))
		if i, f := service.CheckTrips(p, part, l, number()); i < 0 || i > len(l) || invalid && (i != 0 || f != e) {
			t.Fatalf("CheckTrips(%v, %v, %v): %d, %d", p, part, l, i, f)
		}
		division, n, f := service.Waiters(p, part, number())
		silent("Waiters", len(division), n, f)
		service.FormatTrips(p, l)
		if l, _, f := service.ParseTrips(p, "trip 1 2 "+name()+" "+name()+"\n"); f != api.OK && len(l) != 0 {
			t.Fatalf("ParseTrips(%v): %v, %d", p, l, f)
		}
	}
	if service.Load(api.Problem{}, nil, math.MinInt) != 0 {
		t.Error("load of nothing")
	}
}
