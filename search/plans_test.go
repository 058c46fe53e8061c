package search_test

import (
	"maps"
	"math"
	"math/rand"
	"slices"
	"testing"

	"trestle/api"
	"trestle/hall"
	"trestle/plan"
	"trestle/search"
)

// bars returns how many classes and plans have each cost, of a model.
func (m *model) bars() []search.Bar {
	byCost := map[int]search.Bar{}
	for _, x := range m.right {
		b := byCost[x.Cost]
		byCost[x.Cost] = search.Bar{Cost: x.Cost, Classes: b.Classes, Plans: b.Plans + 1}
	}
	for _, x := range m.canon {
		b := byCost[x.Cost]
		byCost[x.Cost] = search.Bar{Cost: x.Cost, Classes: b.Classes + 1, Plans: b.Plans}
	}
	return slices.SortedFunc(maps.Values(byCost), func(a, b search.Bar) int { return a.Cost - b.Cost })
}

// P6.1: whether there are right plans, how many, in how many classes, and with which costs.
func TestHowMany(t *testing.T) {
	r := rand.New(rand.NewSource(1))
	without, turned, dear := 0, 0, 0
	for range 500 {
		p := anyProblem(r, 210, r.Intn(8))
		m := modelOf(t, p)
		is, e := search.Exists(p)
		if is != (len(m.right) > 0) || e != api.OK {
			t.Fatalf("%v: exists %v, %d", p, is, e)
		}
		plans, classes, e := search.Count(p)
		if plans != len(m.right) || classes != len(m.canon) || e != api.OK {
			t.Fatalf("%v: %d plans in %d classes, %d, not %d in %d", p, plans, classes, e, len(m.right), len(m.canon))
		}
		costs, e := search.Costs(p)
		if !slices.Equal(costs, m.bars()) || e != api.OK {
			t.Fatalf("%v: costs %v, %d, not %v", p, costs, e, m.bars())
		}
		if plans == 0 {
			without++
		}
		if classes < plans {
			turned++
		}
		if len(costs) > 1 {
			dear++
		}
	}
	if without < 40 || turned < 50 || dear < 50 {
		t.Errorf("%d problems without right plans, %d that may be turned, %d with several costs", without, turned, dear)
	}
}

// P6.2: which plans are right: the first one, the canonical ones up to a limit, the best one and those behind it.
func TestWhich(t *testing.T) {
	r := rand.New(rand.NewSource(2))
	for range 400 {
		p := anyProblem(r, 210, r.Intn(8))
		m := modelOf(t, p)
		byCost := ranked(m.canon)
		first, e := search.First(p)
		best, f := search.Best(p)
		if len(m.right) == 0 {
			if first != nil || e != api.ErrNone || best.Plan != nil || best.Cost != 0 || f != api.ErrNone {
				t.Fatalf("%v: first %v, %d, best %v, %d, of none", p, first, e, best, f)
			}
		} else if !slices.Equal(first, m.right[0].Plan) || e != api.OK || !equalRanked([]api.Ranked{best}, ranked(m.right)[:1]) || f != api.OK {
			t.Fatalf("%v: first %v, %d, best %v, %d", p, first, e, best, f)
		}
		n := len(m.canon)
		for _, limit := range []int{math.MinInt, -1, 0, 1, n - 1, n, n + 1, math.MaxInt} {
			all, e := search.All(p, limit)
			if n > max(limit, 0) {
				if len(all) != 0 || e != api.ErrMany {
					t.Fatalf("%v: at most %d of %d: %v, %d", p, limit, n, all, e)
				}
			} else if e != api.OK || !slices.EqualFunc(all, m.canon, func(x []int, y api.Ranked) bool { return slices.Equal(x, y.Plan) }) {
				t.Fatalf("%v: all %v, %d, not %v", p, all, e, m.canon)
			}
			list, e := search.Ranking(p, limit)
			if !equalRanked(list, byCost[:min(max(limit, 0), n)]) || e != api.OK {
				t.Fatalf("%v: the first %d: %v, %d, of %v", p, limit, list, e, byCost)
			}
		}
	}
}

// P6.3: the first right plan that extends a partial plan.
func TestExtend(t *testing.T) {
	r := rand.New(rand.NewSource(3))
	seen := map[api.Errno]int{}
	for range 250 {
		p := anyProblem(r, 210, r.Intn(8))
		m := modelOf(t, p)
		for range 8 {
			part := r.Perm(hall.Count(p.Tables))[:len(p.Guests)]
			for g := range part {
				if r.Intn(2) == 0 {
					part[g] = -1
				}
			}
			before := slices.Clone(part)
			extends := func(x api.Ranked) bool {
				return plan.Moved(part, x.Plan) == len(slices.DeleteFunc(slices.Clone(part), func(seat int) bool { return seat >= 0 }))
			}
			x, e := search.Extend(p, part)
			seen[e]++
			if i := slices.IndexFunc(m.right, extends); i < 0 {
				if x != nil || e != api.ErrNone {
					t.Fatalf("%v: %v is extended by %v, %d", p, part, x, e)
				}
			} else if !slices.Equal(x, m.right[i].Plan) || e != api.OK {
				t.Fatalf("%v: %v is extended by %v, %d, not %v", p, part, x, e, m.right[i])
			}
			for g := range x {
				x[g] = -7
			}
			if !slices.Equal(part, before) {
				t.Fatal("a partial plan is changed")
			}
		}
	}
	if seen[api.OK] < 300 || seen[api.ErrNone] < 300 {
		t.Error("errors", seen)
	}
}

// P6.3: where guests sit in right plans, and who always sits on the same seat.
func TestPlaces(t *testing.T) {
	r := rand.New(rand.NewSource(4))
	always, none := 0, 0
	for range 400 {
		p := anyProblem(r, 210, r.Intn(10))
		m := modelOf(t, p)
		var forced []int
		for g := range p.Guests {
			var seats []int
			for _, x := range m.right {
				seats = append(seats, x.Plan[g])
			}
			slices.Sort(seats)
			seats = slices.Compact(seats)
			if got, e := search.Places(p, g); !slices.Equal(got, seats) || e != api.OK {
				t.Fatalf("%v: guest %d sits on %v, %d, not %v", p, g, got, e, seats)
			}
			switch len(seats) {
			case 0:
			case 1:
				forced = append(forced, seats[0])
				always++
			default:
				forced = append(forced, -1)
			}
		}
		for _, g := range append(strange(), len(p.Guests)) {
			if got, e := search.Places(p, g); (g < 0 || g >= len(p.Guests)) && (got != nil || e != api.ErrArg) {
				t.Fatalf("guest %d of %d: %v, %d", g, len(p.Guests), got, e)
			}
		}
		asked := api.OK
		if len(m.right) == 0 {
			asked = api.ErrNone
			none++
		}
		if got, e := search.Forced(p); !slices.Equal(got, forced) || e != asked {
			t.Fatalf("%v: forced %v, %d, not %v", p, got, e, forced)
		}
	}
	if always < 50 || none < 40 {
		t.Errorf("%d guests always sit on the same seat; %d problems have no right plan", always, none)
	}
}

// P6.1, P6.2, P6.3: the chapter's examples.
func TestPlansExamples(t *testing.T) {
	is, e := search.Exists(ring(apart))
	plans, classes, f := search.Count(ring(apart))
	if is || e != api.OK || plans != 0 || classes != 0 || f != api.OK {
		t.Error("example 1", is, e, plans, classes, f)
	}
	plans, classes, e = search.Count(ring())
	if plans != 24 || classes != 3 || e != api.OK {
		t.Error("example 2", plans, classes, e)
	}
	costs, e := search.Costs(ring(across))
	if !slices.Equal(costs, []search.Bar{{Cost: 0, Classes: 1, Plans: 8}, {Cost: 5, Classes: 2, Plans: 16}}) || e != api.OK {
		t.Error("example 3", costs, e)
	}
	best, e := search.Best(ring(across))
	if !slices.Equal(best.Plan, []int{0, 2, 1}) || best.Cost != 0 || e != api.OK {
		t.Error("example 3", best, e)
	}
	if all, e := search.All(ring(across), 2); all != nil || e != api.ErrMany {
		t.Error("example 3", all, e)
	}
	all, e := search.All(ring(across), 3)
	if !slices.EqualFunc(all, [][]int{{0, 1, 2}, {0, 1, 3}, {0, 2, 1}}, slices.Equal[[]int]) || e != api.OK {
		t.Error("example 3", all, e)
	}
	forced, e := search.Forced(ring(across))
	if !slices.Equal(forced, []int{-1, -1, -1}) || e != api.OK {
		t.Error("example 3", forced, e)
	}
	x, e := search.Extend(ring(across), []int{-1, 0, -1})
	if !slices.Equal(x, []int{1, 0, 2}) || e != api.OK {
		t.Error("example 4", x, e)
	}
}

// P6.1, P6.2, P6.3: nobody is to be seated, with seats or without any.
func TestNobody(t *testing.T) {
	for _, p := range []api.Problem{{}, feast(0, api.Table{Shape: api.Round, A: 4}), feast(0, pair(384).Tables...)} {
		is, e := search.Exists(p)
		plans, classes, f := search.Count(p)
		if !is || e != api.OK || plans != 1 || classes != 1 || f != api.OK {
			t.Error(is, e, plans, classes, f)
		}
		first, e := search.First(p)
		all, f := search.All(p, 1)
		if len(first) != 0 || e != api.OK || len(all) != 1 || len(all[0]) != 0 || f != api.OK {
			t.Error(first, e, all, f)
		}
		best, e := search.Best(p)
		costs, f := search.Costs(p)
		if len(best.Plan) != 0 || best.Cost != 0 || e != api.OK || !slices.Equal(costs, []search.Bar{{Classes: 1, Plans: 1}}) || f != api.OK {
			t.Error(best, e, costs, f)
		}
		x, e := search.Extend(p, nil)
		forced, f := search.Forced(p)
		if len(x) != 0 || e != api.OK || len(forced) != 0 || f != api.OK {
			t.Error(x, e, forced, f)
		}
		if seats, e := search.Places(p, 0); seats != nil || e != api.ErrArg {
			t.Error(seats, e)
		}
	}
	p := feast(0, api.Table{Shape: api.Round, A: 4})
	p.Rules = []api.Rule{{Kind: api.Fill, N: 2, Weight: 3}}
	if best, e := search.Best(p); best.Cost != 6 || e != api.OK {
		t.Error("an empty table that is dear", best, e)
	}
	p.Rules = []api.Rule{{Kind: api.Fill, N: 2}}
	is, e := search.Exists(p)
	plans, _, f := search.Count(p)
	if _, g := search.Forced(p); is || e != api.OK || plans != 0 || f != api.OK || g != api.ErrNone {
		t.Error("an empty table that is wrong", is, e, plans, f, g)
	}
}

// P6.1, P6.2, P6.3: problems of nearly MaxWork plans, and such whose group is larger than any that is counted.
func TestNearLimit(t *testing.T) {
	for _, p := range []api.Problem{
		pair(141), feast(1, pair(384).Tables...), feast(5, api.Table{Shape: api.Round, A: 9}), feast(7, api.Table{Shape: api.Long, A: 3, B: 1}), feast(3, api.Table{Shape: api.Row, A: 24}),
	} {
		work, _ := plan.Work(p)
		plans, classes, e := search.Count(p)
		if plans != work || e != api.OK {
			t.Errorf("%d of %d plans, %d", plans, work, e)
		}
		if _, n, e := plan.Count(p); e == api.OK && classes != n {
			t.Errorf("%d of %d classes", classes, n)
		}
		all, e := search.All(p, classes)
		if len(all) != classes || e != api.OK {
			t.Errorf("%d of %d classes, %d", len(all), classes, e)
		}
		for g := range p.Guests {
			if seats, e := search.Places(p, g); len(seats) != hall.Count(p.Tables) || e != api.OK {
				t.Errorf("guest %d sits on %v, %d", g, seats, e)
			}
		}
	}
	if _, classes, _ := search.Count(feast(1, pair(384).Tables...)); classes != 16 {
		t.Errorf("%d classes of one guest at 16 round tables", classes)
	}
}

// P6.3: Extend asks the work behind the partial plan alone.
func TestExtendLarge(t *testing.T) {
	p := feast(64, pair(384).Tables...)
	part := make([]int, 64)
	for g := range part {
		part[g] = 383 - g
	}
	if x, e := search.Extend(p, part); !slices.Equal(x, part) || e != api.OK {
		t.Error("a plan", x, e)
	}
	part[7], part[63] = -1, -1
	if x, e := search.Extend(p, part); x != nil || e != api.ErrLarge {
		t.Error("322 free seats for two", x, e)
	}
	part[63] = 320
	want := slices.Clone(part)
	want[7] = 0
	if x, e := search.Extend(p, part); !slices.Equal(x, want) || e != api.OK {
		t.Error("321 free seats for one", x, e)
	}
	for _, c := range []struct {
		seats int
		e     api.Errno
	}{{141, api.OK}, {142, api.ErrLarge}} {
		p := pair(c.seats)
		if _, e := search.Extend(p, []int{-1, -1}); e != c.e {
			t.Errorf("%d free seats for two: %d", c.seats, e)
		}
		p.Tables, p.Guests = append(p.Tables, api.Table{Name: "last", Shape: api.Row, A: 3}), feast(5).Guests
		x, e := search.Extend(p, []int{-1, c.seats, c.seats + 2, c.seats + 1, -1})
		if e != c.e || e == api.OK && !slices.Equal(x, []int{0, c.seats, c.seats + 2, c.seats + 1, 1}) {
			t.Errorf("%d free seats for two beside three: %v, %d", c.seats, x, e)
		}
	}
}

// P6.1, P6.2, P6.3: a problem's error comes first, then ErrLarge, then the others.
func TestPlansErrors(t *testing.T) {
	ask := func(p api.Problem, asked api.Errno) {
		t.Helper()
		is, e := search.Exists(p)
		plans, classes, f := search.Count(p)
		if is || e != asked || plans != 0 || classes != 0 || f != asked {
			t.Errorf("Exists %v, %d; Count %d, %d, %d; not %d", is, e, plans, classes, f, asked)
		}
		first, e := search.First(p)
		all, f := search.All(p, 0)
		if first != nil || e != asked || all != nil || f != asked {
			t.Errorf("First %v, %d; All %v, %d; not %d", first, e, all, f, asked)
		}
		best, e := search.Best(p)
		list, f := search.Ranking(p, 0)
		if best.Plan != nil || best.Cost != 0 || e != asked || list != nil || f != asked {
			t.Errorf("Best %v, %d; Ranking %v, %d; not %d", best, e, list, f, asked)
		}
		costs, e := search.Costs(p)
		forced, f := search.Forced(p)
		if costs != nil || e != asked || forced != nil || f != asked {
			t.Errorf("Costs %v, %d; Forced %v, %d; not %d", costs, e, forced, f, asked)
		}
		for _, g := range []int{-1, 0, 99} {
			if seats, e := search.Places(p, g); seats != nil || e != asked {
				t.Errorf("Places %v, %d, not %d", seats, e, asked)
			}
		}
	}
	for _, x := range fails() {
		ask(x.p, x.e)
		for _, part := range [][]int{nil, {-1, -1}, {0, 0}, {0, 1}, {-1, 999}} {
			if got, e := search.Extend(x.p, part); got != nil || e != x.e {
				t.Errorf("Extend %v, %d, not %d", got, e, x.e)
			}
		}
	}
	ask(pair(142), api.ErrLarge)
	ask(feast(64, pair(384).Tables...), api.ErrLarge)
	for _, x := range []struct {
		part []int
		e    api.Errno
	}{{nil, api.ErrStale}, {[]int{-1}, api.ErrStale}, {[]int{-1, -1, -1}, api.ErrStale}, {[]int{-1, 384}, api.ErrSeat}, {[]int{-2, -1}, api.ErrSeat}, {[]int{7, 7}, api.ErrTaken}} {
		for _, p := range []api.Problem{pair(384), pair(8)} {
			if got, e := search.Extend(p, x.part); got != nil || e != x.e {
				t.Errorf("Extend of %v: %v, %d, not %d", x.part, got, e, x.e)
			}
		}
	}
}
