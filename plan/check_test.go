package plan_test

import (
	"math"
	"math/rand"
	"slices"
	"testing"

	"trestle/api"
	"trestle/hall"
	"trestle/plan"
)

// checked returns what Check is to say of a list of a valid problem; CheckPart if some guests need not be seated.
func checked(p api.Problem, list []int, all bool) (int, api.Errno) {
	if len(list) != len(p.Guests) {
		return 0, api.ErrStale
	}
	for g, seat := range list {
		switch {
		case seat == -1 && all:
			return g, api.ErrMiss
		case seat < -1 || seat >= hall.Count(p.Tables):
			return g, api.ErrSeat
		case seat >= 0 && slices.Contains(list[:g], seat):
			return g, api.ErrTaken
		}
	}
	return 0, api.OK
}

// P5.1: lists that are plans, or partial plans, or wrong somewhere.
func TestCheck(t *testing.T) {
	r := rand.New(rand.NewSource(1))
	seen := map[api.Errno]int{}
	for range 5000 {
		p := anyProblem(r, 6)
		list := anyPart(r, p, r.Intn(2) == 0)
		for range r.Intn(3) {
			if len(list) > 0 {
				list[r.Intn(len(list))] = pick(r, -1, 0, list[0], hall.Count(p.Tables)-1, hall.Count(p.Tables), pick(r, strange()...))
			}
		}
		switch r.Intn(12) {
		case 0:
			list = append(list, pick(r, strange()...))
		case 1:
			list = list[:len(list)/2]
		}
		before := slices.Clone(list)
		for _, x := range []struct {
			check func(api.Problem, []int) (int, api.Errno)
			all   bool
		}{{plan.Check, true}, {plan.CheckPart, false}} {
			i, e := x.check(p, list)
			at, asked := checked(p, list, x.all)
			if i != at || e != asked || !slices.Equal(list, before) {
				t.Fatalf("%v with %d guests (all: %v): %d, %d, not %d, %d", list, len(p.Guests), x.all, i, e, at, asked)
			}
			seen[e]++
		}
	}
	for _, e := range []api.Errno{api.OK, api.ErrStale, api.ErrMiss, api.ErrSeat, api.ErrTaken} {
		if seen[e] < 200 {
			t.Errorf("error %d only %d times", e, seen[e])
		}
	}
}

// P5.1: examples of lists, the first and the last seat among them, and of what comes first.
func TestCheckExamples(t *testing.T) {
	p := dinner()
	for _, x := range []struct {
		list   []int
		at     int
		e      api.Errno
		partAt int
		part   api.Errno
	}{
		{[]int{0, 1, 2}, 0, api.OK, 0, api.OK},
		{[]int{5, 0, 4}, 0, api.OK, 0, api.OK},
		{[]int{-1, -1, -1}, 0, api.ErrMiss, 0, api.OK},
		{[]int{5, -1, -1}, 1, api.ErrMiss, 0, api.OK},
		{[]int{-1, 6, -1}, 0, api.ErrMiss, 1, api.ErrSeat},
		{[]int{3, 3, -1}, 1, api.ErrTaken, 1, api.ErrTaken},
		{[]int{3, -1, 3}, 1, api.ErrMiss, 2, api.ErrTaken},
		{[]int{6, 6, -1}, 0, api.ErrSeat, 0, api.ErrSeat},
		{[]int{0, -2, -2}, 1, api.ErrSeat, 1, api.ErrSeat},
		{[]int{0, 1, math.MinInt}, 2, api.ErrSeat, 2, api.ErrSeat},
		{[]int{0, 1, math.MaxInt}, 2, api.ErrSeat, 2, api.ErrSeat},
		{nil, 0, api.ErrStale, 0, api.ErrStale},
		{[]int{}, 0, api.ErrStale, 0, api.ErrStale},
		{[]int{9, 9}, 0, api.ErrStale, 0, api.ErrStale},
		{[]int{0, 1, 2, -1}, 0, api.ErrStale, 0, api.ErrStale},
	} {
		i, e := plan.Check(p, x.list)
		k, f := plan.CheckPart(p, x.list)
		if i != x.at || e != x.e || k != x.partAt || f != x.part {
			t.Errorf("%v: Check %d, %d; CheckPart %d, %d", x.list, i, e, k, f)
		}
	}
	for _, l := range [][]int{nil, {}} {
		i, e := plan.Check(api.Problem{}, l)
		k, f := plan.CheckPart(api.Problem{}, l)
		if i != 0 || e != api.OK || k != 0 || f != api.OK {
			t.Error("nobody in a hall without tables", i, e, k, f)
		}
	}
}

// P5.1: of a problem that is not valid the error is told first, whatever the list is, and no index.
func TestCheckProblem(t *testing.T) {
	for _, x := range fails() {
		for _, l := range [][]int{nil, {0, 1, 2}, {0, 0, 0}, {0, -1, 9}, {0, 1, 2, 3, 4, 5, 6}} {
			i, e := plan.Check(x.p, l)
			k, f := plan.CheckPart(x.p, l)
			if i != 0 || e != x.e || k != 0 || f != x.e {
				t.Errorf("%v: Check %d, %d; CheckPart %d, %d, not %d", x.p, i, e, k, f, x.e)
			}
		}
	}
}

// P5.1: who sits where, and where nobody sits.
func TestWhoSitsWhere(t *testing.T) {
	r := rand.New(rand.NewSource(2))
	for range 1000 {
		p := anyProblem(r, 6)
		part := anyPart(r, p, r.Intn(2) == 0)
		before := slices.Clone(part)
		var free []int
		for seat := range hall.Count(p.Tables) {
			g, taken := plan.At(p, part, seat)
			if x := slices.Index(part, seat); taken != (x >= 0) || g != max(x, 0) {
				t.Fatalf("%v: on seat %d sits %d, %v", part, seat, g, taken)
			}
			if !taken {
				free = append(free, seat)
			}
		}
		if got := plan.Free(p, part); !slices.Equal(got, free) {
			t.Fatalf("%v: free are %v, not %v", part, got, free)
		}
		for _, seat := range append(strange(), hall.Count(p.Tables)) {
			if g, taken := plan.At(p, part, seat); (seat < 0 || seat >= hall.Count(p.Tables)) && (g != 0 || taken) {
				t.Fatalf("%v: on seat %d sits %d", part, seat, g)
			}
		}
		first := 0
		for i, table := range p.Tables {
			var guests []int
			for k := range hall.Seats(table) {
				guests = append(guests, slices.Index(part, first+k))
			}
			if got := plan.Guests(p, part, i); !slices.Equal(got, guests) {
				t.Fatalf("%v: at table %d sit %v, not %v", part, i, got, guests)
			}
			first += hall.Seats(table)
		}
		for _, i := range append(strange(), len(p.Tables)) {
			if got := plan.Guests(p, part, i); (i < 0 || i >= len(p.Tables)) && len(got) != 0 {
				t.Fatalf("at table %d sit %v", i, got)
			}
		}
		if !slices.Equal(part, before) {
			t.Fatal("a partial plan is changed")
		}
	}
}

// P5.1: without a valid problem and partial plan nobody sits anywhere, and no seat is free.
func TestNobodySits(t *testing.T) {
	ask := func(p api.Problem, part []int) {
		t.Helper()
		g, taken := plan.At(p, part, 0)
		if len(plan.Free(p, part)) != 0 || len(plan.Guests(p, part, 0)) != 0 || g != 0 || taken {
			t.Errorf("%v in %v", part, p)
		}
	}
	for _, x := range fails() {
		for _, part := range [][]int{{0, 1, 2}, {-1, -1, -1}, {1, 0, 2, 3, 4, 5, -1}, nil} {
			ask(x.p, part)
		}
	}
	for _, part := range [][]int{nil, {1, 0}, {1, 0, 2, 3}, {1, 0, 0}, {1, 0, 6}, {1, 0, -2}} {
		ask(dinner(), part)
	}
	ask(api.Problem{}, []int{0})
	if p := feast(0, api.Table{Shape: api.Row, A: 2}); !slices.Equal(plan.Free(p, nil), []int{0, 1}) || !slices.Equal(plan.Guests(p, nil, 0), []int{-1, -1}) {
		t.Error("a hall without guests")
	}
}
