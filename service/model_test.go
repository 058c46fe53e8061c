package service_test

import (
	"cmp"
	"math"
	"math/rand"
	"slices"
	"strconv"
	"strings"
	"testing"

	"trestle/api"
	"trestle/hall"
	"trestle/plan"
	"trestle/rule"
	"trestle/service"
)

// dinner returns the problem and the partial plan of the chapter's examples.
func dinner() (api.Problem, []int) {
	p := api.Problem{
		Tables: []api.Table{{Name: "sun", Shape: api.Round, A: 4, X: 3}, {Name: "bar", Shape: api.Row, A: 2, Y: 2}, {Name: "end", Shape: api.Row, A: 3, X: 3, Y: 2}},
		Guests: []api.Guest{{Name: "ann", Rank: "duke", Diet: "fish"}, {Name: "bob"}, {Name: "cid", Diet: "fish"}, {Name: "dan"}, {Name: "eva"}},
		Class:  []int{0, 1, 2, 1, 3},
	}
	return p, []int{1, 2, 4, 6, -1}
}

// spot is a table of a hall: where it is, and how many guests sit there.
type spot struct{ x, y, plates int }

// feast returns a problem with round tables of 24 seats at some places, and a partial plan that seats so many guests there.
func feast(spots ...spot) (api.Problem, []int) {
	var p api.Problem
	var part []int
	for t, s := range spots {
		p.Tables = append(p.Tables, api.Table{Name: "t" + string(rune('a'+t)), Shape: api.Round, A: 24, X: s.x, Y: s.y})
		for k := range s.plates {
			p.Guests = append(p.Guests, api.Guest{Name: "g" + string(rune('a'+t)) + string(rune('a'+k))})
			part = append(part, 24*t+k)
		}
	}
	return p, part
}

// loads returns spots at the kitchen with some plates.
func loads(plates ...int) []spot {
	var spots []spot
	for _, n := range plates {
		spots = append(spots, spot{0, 0, n})
	}
	return spots
}

// fail is a problem or a partial plan that is not valid, with the error of rule.Check or plan.CheckPart.
type fail struct {
	p    api.Problem
	part []int
	e    api.Errno
}

// fails returns problems that are not valid: most of them with a partial plan that is none either.
func fails(t *testing.T) []fail {
	t.Helper()
	var list []fail
	add := func(change func(p *api.Problem), part []int, e api.Errno) {
		p, _ := dinner()
		change(&p)
		if _, got := rule.Check(p); got != e {
			t.Fatalf("%v: %d, not %d", p, got, e)
		}
		list = append(list, fail{p, part, e})
	}
	add(func(p *api.Problem) { p.Tables[2].B = 4 }, []int{1, 2, 4, 6, -1}, api.ErrShape)
	add(func(p *api.Problem) { p.Tables[1].Name = "sun" }, []int{1, 2, 4, 6, -1}, api.ErrTwice)
	add(func(p *api.Problem) { p.Tables[1].Name = "" }, nil, api.ErrName)
	add(func(p *api.Problem) { p.Tables[0].X = 1001 }, []int{1, 2, 4, 6, -1}, api.ErrArg)
	add(func(p *api.Problem) { p.Tables[0].Y = -1 }, []int{1, 1, 4, 6, -1}, api.ErrArg)
	add(func(p *api.Problem) { p.Guests[3].Diet = "Fish" }, []int{1, 2, 4, 6, -1}, api.ErrName)
	add(func(p *api.Problem) { p.Class = p.Class[1:] }, []int{1, 2, 4, 6, -1}, api.ErrClass)
	add(func(p *api.Problem) { p.Tables = p.Tables[:1] }, []int{1, 2, 3, 0, -1}, api.ErrRoom)
	add(func(p *api.Problem) { p.Tables = nil }, slices.Repeat([]int{-1}, 5), api.ErrRoom)
	add(func(p *api.Problem) { p.Rules = []api.Rule{{Kind: api.Reach, A: "zoe"}} }, []int{0, 0}, api.ErrUnknown)
	add(func(p *api.Problem) { p.Rules = slices.Repeat([]api.Rule{{Kind: api.Mix}}, 65) }, []int{9, -1, -1, -1, -1}, api.ErrMany)
	return list
}

// partFails returns a problem with lists that are not its partial plans.
func partFails(t *testing.T) []fail {
	t.Helper()
	p, _ := dinner()
	list := []fail{
		{p, nil, api.ErrStale}, {p, []int{1, 2, 4, 6}, api.ErrStale}, {p, []int{1, 2, 4, 6, -1, -1}, api.ErrStale},
		{p, []int{1, 2, 4, 9, -1}, api.ErrSeat}, {p, []int{-2, 2, 4, 6, -1}, api.ErrSeat}, {p, []int{math.MinInt, 2, 4, 6, math.MaxInt}, api.ErrSeat},
		{p, []int{1, 2, 1, 6, -1}, api.ErrTaken}, {p, []int{1, 2, 4, 6, 6}, api.ErrTaken},
	}
	for _, x := range list {
		if _, got := plan.CheckPart(x.p, x.part); got != x.e {
			t.Fatalf("%v: %d, not %d", x.part, got, x.e)
		}
	}
	return list
}

// allFails returns what fails and partFails return.
func allFails(t *testing.T) []fail {
	t.Helper()
	return append(fails(t), partFails(t)...)
}

// pick returns one of some values.
func pick[T any](r *rand.Rand, values ...T) T { return values[r.Intn(len(values))] }

// strange returns numbers that are no guests, tables or counts, and some that may be.
func strange() []int {
	return []int{math.MinInt, math.MinInt + 1, -3, -2, -1, 0, 1, 2, 3, 4, 5, 7, 9, 10, 16, 24, 63, 64, 384, math.MaxInt - 1, math.MaxInt}
}

// anyTable returns a valid table with at most six seats.
func anyTable(r *rand.Rand, name string) api.Table {
	t := pick(r,
		api.Table{Shape: api.Round, A: 1 + r.Intn(6)}, api.Table{Shape: api.Long, A: 1 + r.Intn(2), B: r.Intn(3)},
		api.Table{Shape: api.Horseshoe, A: 1 + r.Intn(3), B: 1}, api.Table{Shape: api.Row, A: 2 + r.Intn(3), B: r.Intn(3)})
	t.Name = name
	far := pick(r, 2, 3, 1001)
	t.X, t.Y = r.Intn(far), r.Intn(far)
	return t
}

// anyFeast returns a valid problem with some number of tables, and one of its partial plans.
func anyFeast(r *rand.Rand, tables int) (api.Problem, []int) {
	var p api.Problem
	for t := range tables {
		p.Tables = append(p.Tables, anyTable(r, string(rune('a'+(t*7+r.Intn(2)*16)%26))+string(rune('a'+t))))
	}
	seats := hall.Count(p.Tables)
	for _, i := range r.Perm(24)[:min(r.Intn(25), seats)] {
		name := strings.Repeat(string(rune('a'+i/6)), 1+i%6)
		p.Guests = append(p.Guests, api.Guest{Name: name, Rank: pick(r, "", "duke", "count"), Diet: pick(r, "", "", "fish", "egg", "fishegg"), Side: r.Intn(3)})
	}
	if r.Intn(4) > 0 {
		for range p.Guests {
			p.Class = append(p.Class, pick(r, 0, 1, 2, 63))
		}
	}
	part := r.Perm(seats)[:len(p.Guests)]
	absent := r.Intn(4)
	for g := range part {
		if r.Intn(6) < absent {
			part[g] = -1
		}
	}
	return p, part
}

// sitters returns the guests at a table, by increasing seats.
func sitters(p api.Problem, part []int, t int) []int {
	var list []int
	for k := range hall.Seats(p.Tables[t]) {
		if g := slices.Index(part, hall.First(p.Tables, t)+k); g >= 0 {
			list = append(list, g)
		}
	}
	return list
}

// platesOf returns for each table how many guests sit there.
func platesOf(p api.Problem, part []int) []int {
	var plates []int
	for t := range p.Tables {
		plates = append(plates, len(sitters(p, part, t)))
	}
	return plates
}

// servedOf returns the tables at which somebody sits.
func servedOf(p api.Problem, part []int) []int {
	var list []int
	for t, n := range platesOf(p, part) {
		if n > 0 {
			list = append(list, t)
		}
	}
	return list
}

// cardModel returns the card of a guest, as the chapter says.
func cardModel(p api.Problem, part []int, g int) string {
	for t := range p.Tables {
		for _, h := range sitters(p, part, t) {
			if h != g {
				continue
			}
			s := "guest " + p.Guests[g].Name + "\n"
			if p.Guests[g].Rank != "" {
				s += "rank " + p.Guests[g].Rank + "\n"
			}
			s += "table " + p.Tables[t].Name + " " + strconv.Itoa(part[g]-hall.First(p.Tables, t)) + "\n"
			if p.Guests[g].Diet != "" {
				s += "diet " + p.Guests[g].Diet + "\n"
			}
			with := "beside"
			for _, other := range sitters(p, part, t) {
				if hall.Beside(p.Tables, part[g], part[other]) {
					with += " " + p.Guests[other].Name
				}
			}
			if with != "beside" {
				s += with + "\n"
			}
			return s
		}
	}
	return ""
}

// gap returns the steps between two tables, or the kitchen (-1).
func gap(p api.Problem, a, b int) int {
	var from, to api.Table
	if a >= 0 {
		from = p.Tables[a]
	}
	if b >= 0 {
		to = p.Tables[b]
	}
	return int(math.Abs(float64(from.X-to.X)) + math.Abs(float64(from.Y-to.Y)))
}

// round returns the length of a way.
func round(p api.Problem, way []int) int {
	stops := append(append([]int{-1}, way...), -1)
	sum := 0
	for i := 1; i < len(stops); i++ {
		sum += gap(p, stops[i-1], stops[i])
	}
	return sum
}

// orders calls back with all orders of a list, in lexicographic order if the list is increasing.
func orders(list []int, told func(order []int)) {
	var next func(order []int)
	next = func(order []int) {
		if len(order) == len(list) {
			told(order)
			return
		}
		for _, n := range list {
			if !slices.Contains(order, n) {
				next(append(slices.Clone(order), n))
			}
		}
	}
	next(nil)
}

// routeModel returns the first of all shortest ways over the tables that are served, and its length.
func routeModel(p api.Problem, part []int) ([]int, int) {
	var best []int
	least := math.MaxInt
	orders(servedOf(p, part), func(way []int) {
		if n := round(p, way); n < least {
			best, least = way, n
		}
	})
	return best, least
}

// spanModel returns the least sum of connections, of all ways to tie each table that is served to another one, or the kitchen.
func spanModel(p api.Problem, part []int) int {
	tables := servedOf(p, part)
	to := make([]int, len(tables)) // an index in tables, or as many for the kitchen
	least := math.MaxInt
	for {
		sum, joined := 0, true
		for i, t := range tables {
			end := -1
			if to[i] < len(tables) {
				end = tables[to[i]]
			}
			sum += gap(p, t, end)
			at := i
			for range tables {
				if at < len(tables) {
					at = to[at]
				}
			}
			joined = joined && at == len(tables)
		}
		if joined {
			least = min(least, sum)
		}
		i := 0
		for ; i < len(to) && to[i] == len(tables); i++ {
			to[i] = 0
		}
		if i == len(to) {
			return least
		}
		to[i]++
	}
}

// cutsModel returns the trips that the chapter says, of all ways to cut a way; nil if a table has too many plates.
func cutsModel(p api.Problem, part, way []int, most int) []api.Trip {
	plates := platesOf(p, part)
	var best []api.Trip
	better := func(l []api.Trip) bool {
		sum := func(l []api.Trip) int {
			n := 0
			for _, x := range l {
				n += x.Steps
			}
			return n
		}
		sizes := func(l []api.Trip) []int {
			var list []int
			for _, x := range l {
				list = append(list, len(x.Tables))
			}
			return list
		}
		return cmp.Or(cmp.Compare(sum(l), sum(best)), cmp.Compare(len(l), len(best)), -slices.Compare(sizes(l), sizes(best))) < 0
	}
	for cuts := range 1 << max(len(way)-1, 0) {
		var l []api.Trip
		carried := true
		for i, t := range way {
			if i == 0 || cuts>>(i-1)&1 == 1 {
				l = append(l, api.Trip{})
			}
			last := &l[len(l)-1]
			last.Tables = append(last.Tables, t)
			last.Plates += plates[t]
			last.Steps = round(p, last.Tables)
			carried = carried && last.Plates <= most
		}
		if carried && (best == nil || better(l)) {
			best = l
		}
	}
	return best
}

// divisionModel returns the first of all lists of waiters whose greatest load is least, as the tables of each waiter, and that
// load.
func divisionModel(p api.Problem, part []int, n int) ([][]int, int) {
	tables, plates := servedOf(p, part), platesOf(p, part)
	var best [][]int
	least := math.MaxInt
	var next func(i int, division [][]int)
	next = func(i int, division [][]int) {
		if i < len(tables) {
			for w := range division {
				longer := slices.Clone(division)
				longer[w] = append(slices.Clone(division[w]), tables[i])
				next(i+1, longer)
			}
			return
		}
		greatest := 0
		for _, l := range division {
			sum := 0
			for _, t := range l {
				sum += plates[t]
			}
			greatest = max(greatest, sum)
		}
		if greatest < least {
			best, least = division, greatest
		}
	}
	next(0, make([][]int, n))
	return best, least
}

// sameTrips reports whether two lists of trips are equal.
func sameTrips(a, b []api.Trip) bool {
	return slices.EqualFunc(a, b, func(x, y api.Trip) bool {
		return x.Plates == y.Plates && x.Steps == y.Steps && slices.Equal(x.Tables, y.Tables)
	})
}

// sameLists reports whether two lists of lists are equal.
func sameLists(a, b [][]int) bool { return slices.EqualFunc(a, b, slices.Equal[[]int]) }

// routeOf returns the route of a partial plan for which there is one.
func routeOf(t *testing.T, p api.Problem, part []int) ([]int, int) {
	t.Helper()
	way, n, e := service.Route(p, part)
	if e != api.OK {
		t.Fatalf("Route(%v, %v): %d", p, part, e)
	}
	return way, n
}
