package plan_test

import (
	"math"
	"math/rand"
	"slices"
	"testing"

	"trestle/api"
	"trestle/hall"
	"trestle/plan"
)

// classesOf returns the number of classes of plans, by going through all of them.
func classesOf(p api.Problem, plans [][]int) int {
	group := wholeGroup(p)
	n := 0
	for _, x := range plans {
		// Of each class the canonical plan is counted.
		if !slices.ContainsFunc(group, func(element []int) bool { return slices.Compare(imageOf(element, x), x) < 0 }) {
			n++
		}
	}
	return n
}

// P5.4: all plans of small problems: their number and that of their classes, the number of each, and the one after each.
func TestCounting(t *testing.T) {
	r := rand.New(rand.NewSource(6))
	for range 200 {
		p := anyProblem(r, 3)
		plans := plansOf(p)
		if n, ok := plan.Work(p); n != len(plans) || !ok {
			t.Fatalf("%v: work %d, %v, not %d", p, n, ok, len(plans))
		}
		if n, k, e := plan.Count(p); n != len(plans) || k != classesOf(p, plans) || e != api.OK {
			t.Fatalf("%v: %d plans, %d classes, %d, not %d and %d", p, n, k, e, len(plans), classesOf(p, plans))
		}
		for i, x := range plans {
			before := slices.Clone(x)
			if n, e := plan.Rank(p, x); n != i || e != api.OK {
				t.Fatalf("%v: plan %v has the number %d, %d, not %d", p, x, n, e, i)
			}
			got, e := plan.Unrank(p, i)
			if !slices.Equal(got, x) || e != api.OK {
				t.Fatalf("%v: plan %d is %v, %d, not %v", p, i, got, e, x)
			}
			next, ok := plan.Next(p, x)
			if last := i == len(plans)-1; ok == last || last && len(next) != 0 || !last && !slices.Equal(next, plans[i+1]) {
				t.Fatalf("%v: after %v comes %v, %v", p, x, next, ok)
			}
			for g := range next {
				next[g] = -7
			}
			if !slices.Equal(x, before) {
				t.Fatal("a plan is changed")
			}
		}
		for _, i := range append(strange(), len(plans)) {
			if got, e := plan.Unrank(p, i); (i < 0 || i >= len(plans)) && (len(got) != 0 || e != api.ErrArg) {
				t.Fatalf("%v: plan %d is %v, %d", p, i, got, e)
			}
		}
	}
}

// P5.4: the work, up to MaxWork and above it.
func TestWork(t *testing.T) {
	row := func(seats int) []api.Table {
		var tables []api.Table
		for ; seats > 24; seats -= 24 {
			tables = append(tables, api.Table{Shape: api.Row, A: 24})
		}
		return append(tables, api.Table{Shape: api.Row, A: seats})
	}
	for _, x := range []struct{ seats, guests, work int }{
		{384, 0, 1}, {384, 1, 384}, {1, 0, 1}, {1, 1, 1}, {2, 2, 2}, {141, 2, 19740}, {142, 2, 0}, {384, 2, 0}, {28, 3, 19656}, {29, 3, 0},
		{13, 4, 17160}, {14, 4, 0}, {8, 5, 6720}, {9, 5, 15120}, {10, 5, 0}, {8, 6, 0}, {7, 6, 5040}, {7, 7, 5040}, {8, 7, 0}, {8, 8, 0}, {64, 64, 0}, {384, 64, 0},
	} {
		p := feast(x.guests, row(x.seats)...)
		if n, ok := plan.Work(p); n != x.work || ok != (x.work > 0) {
			t.Errorf("%d guests on %d seats: work %d, %v", x.guests, x.seats, n, ok)
		}
		var first []int
		for g := range x.guests {
			first = append(first, g)
		}
		asked := api.OK
		if x.work == 0 {
			asked = api.ErrLarge
		}
		n, e := plan.Rank(p, first)
		got, f := plan.Unrank(p, 0)
		none, g := plan.Unrank(p, x.work)
		if n != 0 || e != asked || f != asked || f == api.OK && !slices.Equal(got, first) || f != api.OK && len(got) != 0 || len(none) != 0 || g != max(asked, api.ErrArg) {
			t.Errorf("%d guests on %d seats: first plan %d %d, %v %d, and %v %d", x.guests, x.seats, n, e, got, f, none, g)
		}
	}
	if n, ok := plan.Work(api.Problem{}); n != 1 || !ok {
		t.Error("work of nobody", n, ok)
	}
}

// P5.4: classes are counted without going through a group of the order 2^30.
func TestCountLimit(t *testing.T) {
	for _, x := range []struct{ guests, plans, classes int }{
		{0, 1, 1},
		{1, 60, 16},
		// At different tables: 16 * 15. Both at one table: 3 classes at each of 14 tables with four seats, 1 at each of the others.
		{2, 60 * 59, 16*15 + 14*3 + 2},
	} {
		if n, k, e := plan.Count(large(x.guests, false)); n != x.plans || k != x.classes || e != api.OK {
			t.Errorf("%d guests: %d plans, %d classes, %d", x.guests, n, k, e)
		}
	}
	// Each of these has either too great a work or too great an order.
	for _, p := range []api.Problem{large(0, true), large(1, true), large(3, false), feast(2, slices.Repeat([]api.Table{{Shape: api.Round, A: 24}}, 7)...), feast(8, api.Table{Shape: api.Row, A: 8})} {
		if n, k, e := plan.Count(p); n != 0 || k != 0 || e != api.ErrLarge {
			t.Errorf("%d tables: %d plans, %d classes, %d", len(p.Tables), n, k, e)
		}
	}
	if n, k, e := plan.Count(feast(7, api.Table{Shape: api.Round, A: 7})); n != 5040 || k != 360 || e != api.OK {
		t.Error("a round table", n, k, e)
	}
	if n, k, e := plan.Count(api.Problem{}); n != 1 || k != 1 || e != api.OK {
		t.Error("nobody in a hall without tables", n, k, e)
	}
}

// P5.4: the chapter's examples.
func TestCountingExamples(t *testing.T) {
	p := dinner()
	if n, k, e := plan.Count(p); n != 120 || k != 12 || e != api.OK {
		t.Error(n, k, e)
	}
	for _, x := range []struct {
		n    int
		plan []int
	}{{0, []int{0, 1, 2}}, {3, []int{0, 1, 5}}, {4, []int{0, 2, 1}}, {119, []int{5, 4, 3}}} {
		n, e := plan.Rank(p, x.plan)
		got, f := plan.Unrank(p, x.n)
		if n != x.n || e != api.OK || !slices.Equal(got, x.plan) || f != api.OK {
			t.Errorf("%d: %v; %v: %d", x.n, got, x.plan, n)
		}
	}
	for _, n := range []int{120, -1, math.MaxInt, math.MinInt} {
		if got, e := plan.Unrank(p, n); len(got) != 0 || e != api.ErrArg {
			t.Errorf("%d: %v, %d", n, got, e)
		}
	}
}

// P5.4: the plan after a plan, however many plans there are.
func TestNext(t *testing.T) {
	p := feast(64, slices.Repeat([]api.Table{{Shape: api.Round, A: 24}}, 16)...)
	first, last := make([]int, 64), make([]int, 64)
	for g := range first {
		first[g], last[g] = g, 383-g
	}
	second := slices.Clone(first)
	second[63] = 64
	if got, ok := plan.Next(p, first); !ok || !slices.Equal(got, second) {
		t.Error("the second plan", got, ok)
	}
	if got, ok := plan.Next(p, last); ok || len(got) != 0 {
		t.Error("after the last plan", got)
	}
	// The third guest from the end is the last one who can move on, to the next free seat; those behind take the first free seats.
	before := slices.Concat(first[:61], []int{380, 383, 382})
	after := slices.Concat(first[:61], []int{381, 61, 62})
	if got, ok := plan.Next(p, before); !ok || !slices.Equal(got, after) {
		t.Error("after", before, "comes", got, ok)
	}
	full := feast(3, api.Table{Shape: api.Row, A: 3})
	for _, x := range []struct{ plan, next []int }{{[]int{0, 1, 2}, []int{0, 2, 1}}, {[]int{0, 2, 1}, []int{1, 0, 2}}, {[]int{2, 0, 1}, []int{2, 1, 0}}, {[]int{2, 1, 0}, nil}} {
		if got, ok := plan.Next(full, x.plan); ok != (x.next != nil) || !slices.Equal(got, x.next) {
			t.Errorf("after %v comes %v, %v", x.plan, got, ok)
		}
	}
	if got, ok := plan.Next(api.Problem{}, nil); ok || len(got) != 0 {
		t.Error("after the only plan", got)
	}
}

// P5.4: the problem's error comes first, then that of the plan, then that of the work, then that of the number.
func TestCountingErrors(t *testing.T) {
	for _, x := range fails() {
		work, ok := plan.Work(x.p)
		plans, classes, e := plan.Count(x.p)
		rank, f := plan.Rank(x.p, []int{0, 0, 9})
		unrank, g := plan.Unrank(x.p, -1)
		next, after := plan.Next(x.p, []int{0, 1, 2})
		if work != 0 || ok || plans != 0 || classes != 0 || e != x.e || rank != 0 || f != x.e || len(unrank) != 0 || g != x.e || len(next) != 0 || after {
			t.Errorf("%v: %d %v, %d %d %d, %d %d, %v %d, %v %v, not %d", x.p, work, ok, plans, classes, e, rank, f, unrank, g, next, after, x.e)
		}
	}
	for _, x := range []struct {
		plan []int
		e    api.Errno
	}{{nil, api.ErrStale}, {[]int{0, 1}, api.ErrStale}, {[]int{0, 1, -1}, api.ErrMiss}, {[]int{0, 1, 384}, api.ErrSeat}, {[]int{0, -2, 1}, api.ErrSeat}, {[]int{0, 1, 0}, api.ErrTaken}} {
		for _, p := range []api.Problem{dinner(), large(3, false)} {
			rank, e := plan.Rank(p, x.plan)
			next, ok := plan.Next(p, x.plan)
			if rank != 0 || e != x.e || len(next) != 0 || ok {
				t.Errorf("%v: %d %d, %v %v", x.plan, rank, e, next, ok)
			}
		}
	}
	for _, n := range []int{0, -1, math.MaxInt} {
		if got, e := plan.Unrank(large(3, false), n); len(got) != 0 || e != api.ErrLarge {
			t.Errorf("number %d: %v, %d", n, got, e)
		}
	}
	if seats := hall.Count(large(3, false).Tables); seats != 60 {
		t.Error("seats", seats)
	}
}
