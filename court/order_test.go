package court_test

import (
	"math"
	"math/rand"
	"slices"
	"testing"

	"trestle/api"
	"trestle/court"
)

// example returns the clauses and guests of the chapter's examples.
func example() ([]api.Clause, []api.Guest) {
	clauses := []api.Clause{{Kind: api.ByRank, Names: []string{"duke", "count"}}, {Kind: api.ByElder, Among: "duke"}, {Kind: api.BySide, N: 1}, {Kind: api.ByName}}
	guests := []api.Guest{
		{Name: "ada", Rank: "count", Side: 2}, {Name: "bea", Rank: "duke", Since: 1700}, {Name: "cyr", Rank: "duke", Since: 1650},
		{Name: "dan", Side: 1}, {Name: "eva", Rank: "count", Side: 1},
	}
	return clauses, guests
}

// P3.2: the chapter's examples 1 to 4.
func TestExamples(t *testing.T) {
	c, g := example()
	if l, e := court.Line(c, g); e != api.OK || !slices.Equal(l, []int{2, 1, 4, 0, 3}) {
		t.Error("Line", l, e)
	}
	if groups := court.Order(c, g); !slices.EqualFunc(groups, [][]int{{2}, {1}, {4}, {0}, {3}}, slices.Equal[[]int]) {
		t.Error("Order", groups)
	}
	for _, x := range []struct{ a, b, clause, order int }{{1, 2, 1, 1}, {2, 1, 1, -1}, {0, 4, 2, 1}, {4, 0, 2, -1}, {3, 4, 0, 1}, {0, 0, -1, 0}} {
		if clause, order := court.Reason(c, g[x.a], g[x.b], x.a, x.b); clause != x.clause || order != x.order {
			t.Errorf("Reason(%d, %d): %d, %d", x.a, x.b, clause, order)
		}
	}
	if l := court.Deciding(c, g); !slices.Equal(l, []int{0, 1, 2}) {
		t.Error("Deciding", l)
	}
	few := c[:2]
	if groups := court.Order(few, g); !slices.EqualFunc(groups, [][]int{{2}, {1}, {0, 4}, {3}}, slices.Equal[[]int]) {
		t.Error("Order", groups)
	}
	if l := court.Class(few, g); !slices.Equal(l, []int{2, 1, 0, 3, 2}) {
		t.Error("Class", l)
	}
	if l, e := court.Line(few, g); e != api.ErrTied || len(l) != 0 {
		t.Error("Line of tied guests", l, e)
	}
	for _, x := range []struct {
		lot  int
		line []int
	}{{1, []int{0, 1, 2}}, {40, []int{2, 0, 1}}} {
		if l, e := court.Line([]api.Clause{{Kind: api.ByLot, N: x.lot}}, g[:3]); e != api.OK || !slices.Equal(l, x.line) {
			t.Error("lot", x.lot, l, e)
		}
	}
}

// P3.2: who goes before whom by each kind.
func TestKinds(t *testing.T) {
	duke, count, page, none := api.Guest{Rank: "duke"}, api.Guest{Rank: "count"}, api.Guest{Rank: "page"}, api.Guest{}
	ladder := api.Clause{Kind: api.ByRank, Names: []string{"king", "duke", "count"}}
	elder, youth := api.Clause{Kind: api.ByElder}, api.Clause{Kind: api.ByYouth}
	since := func(year int) api.Guest { return api.Guest{Since: year} }
	side := func(n int, last bool) api.Clause { return api.Clause{Kind: api.BySide, N: n, Last: last} }
	of := func(n int) api.Guest { return api.Guest{Side: n} }
	host, hostLast, isHost := api.Clause{Kind: api.ByHost}, api.Clause{Kind: api.ByHost, Last: true}, api.Guest{Host: true}
	tongue, tongueLast := api.Clause{Kind: api.ByTongue, Names: []string{"latin", "greek"}}, api.Clause{Kind: api.ByTongue, Names: []string{"latin"}, Last: true}
	speaks := func(list ...string) api.Guest { return api.Guest{Tongues: list} }
	sent, sentLast := api.Clause{Kind: api.ByCourt, Names: []string{"spain", "france"}}, api.Clause{Kind: api.ByCourt, Names: []string{"france"}, Last: true}
	from := func(name string) api.Guest { return api.Guest{Court: name} }
	name := api.Clause{Kind: api.ByName}
	called := func(name string) api.Guest { return api.Guest{Name: name} }
	for i, x := range []struct {
		x     api.Clause
		a, b  api.Guest
		order int
	}{
		{ladder, duke, count, -1}, {ladder, count, page, -1}, {ladder, count, none, -1}, {ladder, page, none, 0}, {ladder, duke, duke, 0}, {ladder, api.Guest{Rank: "king"}, duke, -1},
		{elder, since(1), since(2), -1}, {elder, since(2), since(2), 0}, {elder, since(9999), since(0), -1}, {elder, since(0), since(0), 0},
		{elder, since(-1), since(0), -1}, {elder, since(-1), since(1), -1}, {elder, since(math.MaxInt), since(0), -1}, {elder, since(math.MinInt), since(math.MaxInt), -1}, {elder, since(math.MinInt), since(0), -1},
		{youth, since(2), since(1), -1}, {youth, since(2), since(2), 0}, {youth, since(1), since(0), -1}, {youth, since(0), since(0), 0},
		{youth, since(-1), since(0), -1}, {youth, since(1), since(-1), -1}, {youth, since(math.MaxInt), since(0), -1}, {youth, since(math.MaxInt), since(math.MinInt), -1}, {youth, since(math.MinInt), since(0), -1},
		{side(1, false), of(1), of(2), -1}, {side(1, false), of(1), of(0), -1}, {side(1, false), of(0), of(2), 0}, {side(1, false), of(1), of(1), 0}, {side(2, false), of(2), of(1), -1}, {side(2, false), of(2), of(3), -1}, {side(2, false), of(-2), of(1), 0},
		{side(1, true), of(2), of(1), -1}, {side(1, true), of(0), of(1), -1}, {side(1, true), of(0), of(2), 0}, {side(2, true), of(1), of(2), -1}, {side(2, true), of(2), of(2), 0},
		{host, isHost, none, -1}, {host, isHost, isHost, 0}, {host, none, none, 0}, {hostLast, none, isHost, -1}, {hostLast, isHost, isHost, 0}, {hostLast, none, none, 0},
		{tongue, speaks("latin"), none, -1}, {tongue, speaks("danish", "greek"), speaks("danish"), -1}, {tongue, speaks("greek"), speaks("latin"), 0}, {tongue, speaks("greek", "latin"), speaks("latin"), 0}, {tongue, none, speaks("irish"), 0},
		{tongue, speaks("z", "latin", "a", "latin", ""), speaks("Latin", "lati", "latins"), -1},
		{tongueLast, none, speaks("latin"), -1}, {tongueLast, speaks("greek"), speaks("greek", "latin"), -1}, {tongueLast, speaks("latin"), speaks("latin", "greek"), 0},
		{sent, from("spain"), none, -1}, {sent, from("france"), from("danzig"), -1}, {sent, from("france"), from("spain"), 0}, {sent, none, from("danzig"), 0},
		{sentLast, none, from("france"), -1}, {sentLast, from("spain"), from("france"), -1}, {sentLast, from("france"), from("france"), 0}, {sentLast, from("spain"), none, 0},
		{name, called("ann"), called("bob"), -1}, {name, called("ann"), called("anna"), -1}, {name, called("ann"), called("ann"), 0}, {name, called(""), called("a"), -1}, {name, called("Z"), called("a"), -1}, {name, called("z"), called("\xff"), -1}, {name, called("a"), called("ä"), -1},
	} {
		if there, back := court.Compare([]api.Clause{x.x}, x.a, x.b, 3, 3), court.Compare([]api.Clause{x.x}, x.b, x.a, 3, 3); there != x.order || back != -x.order {
			t.Errorf("%d: %d and %d, not %d", i, there, back, x.order)
		}
	}
}

// P3.2: a list and a lot separate two guests at different places from 0 to 63.
func TestPlaces(t *testing.T) {
	var all []int
	for i := range 64 {
		all = append(all, i)
	}
	outside := []int{-1, -64, 64, 65, 128, math.MinInt, math.MaxInt}
	for n := -1; n < 64; n++ {
		x := api.Clause{Kind: api.ByLot, N: n}
		if n < 0 {
			x = api.Clause{Kind: api.ByList}
		}
		c, nobody := []api.Clause{x}, api.Guest{}
		for _, i := range all {
			for _, j := range all {
				_, want := reason(c, nobody, nobody, i, j)
				if got := court.Compare(c, nobody, nobody, i, j); got != want || (got == 0) != (i == j) {
					t.Fatalf("%v: %d and %d: %d", x, i, j, got)
				}
			}
			for _, j := range append(outside, i) {
				if court.Compare(c, nobody, nobody, i, j) != 0 || court.Compare(c, nobody, nobody, j, i) != 0 {
					t.Fatalf("%v: %d and %d", x, i, j)
				}
			}
		}
		for _, i := range outside {
			for _, j := range outside {
				if clause, order := court.Reason(c, nobody, nobody, i, j); clause != -1 || order != 0 {
					t.Fatalf("%v: %d and %d", x, i, j)
				}
			}
		}
	}
}

// P3.2: a clause among the holders of a rank counts only between two of them.
func TestAmong(t *testing.T) {
	duke, count := api.Guest{Rank: "duke", Since: 9}, api.Guest{Rank: "count", Since: 5}
	younger := api.Guest{Rank: "duke", Since: 10}
	c := []api.Clause{{Kind: api.ByRank, Names: []string{"duke", "count"}}, {Kind: api.ByElder, Among: "duke"}, {Kind: api.ByYouth}}
	for _, x := range []struct {
		a, b          api.Guest
		clause, order int
	}{
		{duke, younger, 1, -1}, {younger, duke, 1, 1}, {duke, count, 0, -1}, {count, younger, 0, 1}, {duke, duke, -1, 0},
		{count, api.Guest{Rank: "count", Since: 4}, 2, -1}, {api.Guest{Since: 4}, api.Guest{Since: 5}, 2, 1},
	} {
		if clause, order := court.Reason(c, x.a, x.b, 0, 1); clause != x.clause || order != x.order {
			t.Errorf("%v and %v: %d, %d", x.a, x.b, clause, order)
		}
	}
}

// P3.2: Compare and Reason, whatever the guests are.
func TestReason(t *testing.T) {
	r := rand.New(rand.NewSource(1))
	for range 30000 {
		c, a, b := anyCourt(r, r.Intn(7)), anyGuest(r), anyGuest(r)
		i, j := pick(r, -1, 0, 1, 2, 62, 63, 64), pick(r, -1, 0, 1, 2, 62, 63, 64)
		check(t, c)
		clause, order := reason(c, a, b, i, j)
		if gotClause, got := court.Reason(c, a, b, i, j); gotClause != clause || got != order || court.Compare(c, a, b, i, j) != order {
			t.Fatalf("%v: %v at %d and %v at %d: %d, %d, not %d, %d", c, a, i, b, j, gotClause, got, clause, order)
		}
	}
}

// P3.2: Order, Class, Line and Deciding, whatever the guests are.
func TestOrder(t *testing.T) {
	r := rand.New(rand.NewSource(2))
	for n := range 1500 {
		c, g := anyCourt(r, r.Intn(7)), crowd(r, r.Intn(12))
		if n%50 == 0 {
			c, g = anyCourt(r, pick(r, 0, 1, 2, 32)), crowd(r, 64)
		}
		class := classes(c, g)
		groups := grouped(class)
		if got := court.Class(c, g); !slices.Equal(got, class) {
			t.Fatalf("Class(%v, %v): %v, not %v", c, g, got, class)
		}
		if got := court.Order(c, g); !slices.EqualFunc(got, groups, slices.Equal[[]int]) {
			t.Fatalf("Order(%v, %v): %v, not %v", c, g, got, groups)
		}
		line, wrong := slices.Concat(groups...), api.OK
		if len(groups) < len(g) {
			line, wrong = nil, api.ErrTied
		}
		if got, e := court.Line(c, g); !slices.Equal(got, line) || e != wrong {
			t.Fatalf("Line(%v, %v): %v, %d", c, g, got, e)
		}
		var decide []int
		for k := range c {
			decides := false
			for x := range g {
				for y := range g {
					clause, _ := reason(c, g[x], g[y], x, y)
					decides = decides || clause == k
				}
			}
			if decides {
				decide = append(decide, k)
			}
		}
		if got := court.Deciding(c, g); !slices.Equal(got, decide) {
			t.Fatalf("Deciding(%v, %v): %v, not %v", c, g, got, decide)
		}
	}
}

// P3.2: without clauses, and without guests.
func TestNothing(t *testing.T) {
	some := make([]api.Guest, 3)
	if clause, order := court.Reason(nil, some[0], some[1], 0, 1); clause != -1 || order != 0 {
		t.Error("Reason without clauses", clause, order)
	}
	if groups := court.Order(nil, some); len(groups) != 1 || !slices.Equal(groups[0], []int{0, 1, 2}) {
		t.Error("Order without clauses", groups)
	}
	if class := court.Class([]api.Clause{}, some); !slices.Equal(class, []int{0, 0, 0}) {
		t.Error("Class without clauses", class)
	}
	if l, e := court.Line(nil, some); len(l) != 0 || e != api.ErrTied {
		t.Error("Line without clauses", l, e)
	}
	if l, e := court.Line(nil, some[:1]); !slices.Equal(l, []int{0}) || e != api.OK {
		t.Error("Line of one guest", l, e)
	}
	c, _ := example()
	if l, e := court.Line(c, nil); len(l) != 0 || e != api.OK {
		t.Error("Line of nobody", l, e)
	}
	if len(court.Order(c, nil)) != 0 || len(court.Class(c, []api.Guest{})) != 0 || len(court.Deciding(c, nil)) != 0 || len(court.Deciding(nil, some)) != 0 {
		t.Error("nobody in order")
	}
}

// P3.2: a text that is not valid, and too many guests.
func TestWrongOrder(t *testing.T) {
	list := []api.Clause{{Kind: api.ByList}}
	many, full := make([]api.Guest, 65), make([]api.Guest, 64)
	for _, c := range invalid() {
		_, want := court.Check(c)
		for _, g := range [][]api.Guest{nil, full[:2], many} {
			if len(court.Order(c, g)) != 0 || len(court.Class(c, g)) != 0 || len(court.Deciding(c, g)) != 0 {
				t.Errorf("%v puts %d guests in order", c, len(g))
			}
			if l, e := court.Line(c, g); len(l) != 0 || e != want {
				t.Errorf("%v: Line is %v, %d", c, l, e)
			}
		}
		a, b := api.Guest{Name: "a"}, api.Guest{Name: "b"}
		if clause, order := court.Reason(c, a, b, 0, 1); clause != 0 || order != 0 || court.Compare(c, a, b, 0, 1) != 0 {
			t.Errorf("%v: Reason is %d, %d", c, clause, order)
		}
	}
	if len(court.Order(list, many)) != 0 || len(court.Class(list, many)) != 0 || len(court.Deciding(list, many)) != 0 {
		t.Error("65 guests in order")
	}
	if l, e := court.Line(list, many); len(l) != 0 || e != api.ErrMany {
		t.Error("Line of 65 guests", l, e)
	}
	if l, e := court.Line(list, full); len(l) != 64 || e != api.OK || len(court.Order(list, full)) != 64 || len(court.Class(list, full)) != 64 || !slices.Equal(court.Deciding(list, full), []int{0}) {
		t.Error("Line of 64 guests", l, e)
	}
}

// P3.2: a result is new memory, also each group of guests, and no argument is changed.
func TestOrderMemory(t *testing.T) {
	c, g := example()
	before := slices.Clone(g)
	groups := court.Order(c[:2], g)
	for i := range groups {
		groups[i] = append(groups[i], 99)
	}
	if !slices.EqualFunc(groups, [][]int{{2, 99}, {1, 99}, {0, 4, 99}, {3, 99}}, slices.Equal[[]int]) {
		t.Error("groups share memory", groups)
	}
	court.Line(c, g)
	court.Deciding(c, g)
	fresh, _ := example()
	if !sameCourt(c, fresh) || !slices.EqualFunc(g, before, func(a, b api.Guest) bool { return a.Name == b.Name && a.Rank == b.Rank }) {
		t.Error("an argument is changed", c, g)
	}
}
