package plan_test

import (
	"math/rand"
	"slices"
	"testing"

	"trestle/api"
	"trestle/hall"
	"trestle/plan"
)

// equal reports whether two lists of lists are equal.
func equal(a, b [][]int) bool { return slices.EqualFunc(a, b, slices.Equal[[]int]) }

// P5.2: the group of each table, the order of the group of the problem, and the images under each element of a table's group.
func TestGroup(t *testing.T) {
	r := rand.New(rand.NewSource(3))
	pinned := 0
	for range 600 {
		p := anyProblem(r, 6)
		part := anyPart(r, p, r.Intn(2) == 0)
		before := slices.Clone(part)
		order := 1
		for i := range p.Tables {
			group := groupOf(p, i)
			order *= len(group)
			if len(group) < len(hall.Turns(p.Tables[i])) {
				pinned++
			}
			if got := plan.Group(p, i); !equal(got, group) {
				t.Fatalf("table %d of %v: group %v, not %v", i, p, got, group)
			}
			for k, turn := range group {
				var image []int
				for _, seat := range part {
					if at, n, ok := hall.Where(p.Tables, seat); ok && at == i {
						seat = hall.First(p.Tables, i) + turn[n]
					}
					image = append(image, seat)
				}
				got, e := plan.Act(p, part, i, k)
				if e != api.OK || !slices.Equal(got, image) {
					t.Fatalf("element %d of table %d of %v turns %v to %v, %d, not to %v", k, i, p, part, got, e, image)
				}
				for g := range got {
					got[g] = -7
				}
			}
			for _, k := range strange() {
				if got, e := plan.Act(p, part, i, k); (k < 0 || k >= len(group)) && (e != api.ErrArg || len(got) != 0) {
					t.Fatalf("element %d of %d: %v, %d", k, len(group), got, e)
				}
			}
		}
		for _, i := range append(strange(), len(p.Tables)) {
			got, e := plan.Act(p, part, i, 0)
			if (i < 0 || i >= len(p.Tables)) && (e != api.ErrArg || len(got) != 0 || len(plan.Group(p, i)) != 0) {
				t.Fatalf("table %d: %v, %d, %v", i, got, e, plan.Group(p, i))
			}
		}
		if n, e := plan.Size(p); n != order || e != api.OK || n != len(wholeGroup(p)) {
			t.Fatalf("%v: order %d, %d, not %d", p, n, e, order)
		}
		if !slices.Equal(part, before) {
			t.Fatal("a partial plan is changed")
		}
	}
	if pinned < 50 {
		t.Errorf("only %d tables with pinned seats", pinned)
	}
}

// P5.2: examples of groups, the chapter's first among them; each is new memory.
func TestGroupExamples(t *testing.T) {
	turns := [][]int{{0, 1, 2, 3}, {0, 3, 2, 1}, {1, 0, 3, 2}, {1, 2, 3, 0}, {2, 1, 0, 3}, {2, 3, 0, 1}, {3, 0, 1, 2}, {3, 2, 1, 0}}
	seat := func(table string, n, weight int) api.Rule {
		return api.Rule{Kind: api.Seat, A: "ann", Table: table, N: n, Weight: weight}
	}
	for _, x := range []struct {
		rules    []api.Rule
		sun, bar int
	}{
		{nil, 8, 2},
		{[]api.Rule{seat("sun", 2, 0)}, 2, 2},
		{[]api.Rule{seat("sun", 2, 5)}, 2, 2},
		{[]api.Rule{seat("sun", 2, 0), seat("sun", 0, 0)}, 2, 2},
		{[]api.Rule{seat("sun", 2, 0), seat("sun", 1, 0)}, 1, 2},
		{[]api.Rule{seat("bar", 0, 0)}, 8, 1},
		{[]api.Rule{{Kind: api.Honour, Table: "sun"}}, 2, 2},
		{[]api.Rule{{Kind: api.Honour}}, 2, 1},
		{[]api.Rule{{Kind: api.At, A: "ann", Table: "sun"}, {Kind: api.Alternate}}, 8, 2},
	} {
		p := dinner(x.rules...)
		n, e := plan.Size(p)
		if len(plan.Group(p, 0)) != x.sun || len(plan.Group(p, 1)) != x.bar || n != x.sun*x.bar || e != api.OK {
			t.Errorf("%v: groups %v and %v, order %d", x.rules, plan.Group(p, 0), plan.Group(p, 1), n)
		}
	}
	for range 2 {
		got := plan.Group(dinner(), 0)
		if !equal(got, turns) {
			t.Errorf("group of sun: %v", got)
		}
		for _, turn := range got {
			for k := range turn {
				turn[k] = -1
			}
		}
	}
	if got := plan.Group(dinner(seat("sun", 2, 0)), 0); !equal(got, [][]int{{0, 1, 2, 3}, {0, 3, 2, 1}}) {
		t.Errorf("group of sun with a pinned seat: %v", got)
	}
	if n, e := plan.Size(api.Problem{}); n != 1 || e != api.OK {
		t.Error("order of the group of no tables", n, e)
	}
}

// large returns sixteen tables whose group has the order 2^30 and, if more is true, one with a group of a greater order.
func large(guests int, more bool) api.Problem {
	four, two := api.Table{Shape: api.Long, A: 2}, api.Table{Shape: api.Row, A: 2}
	last := two
	if more {
		last = api.Table{Shape: api.Round, A: 3}
	}
	return feast(guests, append(slices.Repeat([]api.Table{four}, 14), two, last)...)
}

// P5.2: the order may be 2^30, but not above.
func TestSizeLimit(t *testing.T) {
	if n, e := plan.Size(large(0, false)); n != 1<<30 || e != api.OK {
		t.Error("order 2^30", n, e)
	}
	huge := slices.Repeat([]api.Table{{Shape: api.Round, A: 24}}, 16)
	for _, p := range []api.Problem{large(0, true), feast(3, huge[:6]...), feast(3, huge...)} {
		if n, e := plan.Size(p); n != 0 || e != api.ErrLarge {
			t.Errorf("order above 2^30: %d, %d", n, e)
		}
	}
	if n, e := plan.Size(feast(3, huge[:5]...)); n != 48*48*48*48*48 || e != api.OK {
		t.Error("order 48^5", n, e)
	}
	// The first tables alone have an order above 2^30, and the last one has none but the identity.
	if n, e := plan.Size(feast(0, append(huge[:6], api.Table{Shape: api.Row, A: 1})...)); n != 0 || e != api.ErrLarge {
		t.Error("a small table behind large ones", n, e)
	}
}

// P5.2: two guests with each other's seat.
func TestSwap(t *testing.T) {
	r := rand.New(rand.NewSource(4))
	for range 100 {
		p := anyProblem(r, 6)
		part := anyPart(r, p, false)
		before := slices.Clone(part)
		for _, g := range append(strange(), len(part)) {
			for _, h := range append(strange(), len(part)) {
				got, e := plan.Swap(p, part, g, h)
				if g < 0 || h < 0 || g >= len(part) || h >= len(part) {
					if e != api.ErrArg || len(got) != 0 {
						t.Fatalf("Swap(%d, %d) of %v: %v, %d", g, h, part, got, e)
					}
					continue
				}
				for x := range part {
					number := part[x]
					switch x {
					case g:
						number = part[h]
					case h:
						number = part[g]
					}
					if e != api.OK || len(got) != len(part) || got[x] != number {
						t.Fatalf("Swap(%d, %d) of %v: %v, %d", g, h, part, got, e)
					}
				}
				got[g] = -7
				if !slices.Equal(part, before) {
					t.Fatal("a partial plan is changed")
				}
			}
		}
	}
}

// P5.2: the problem's error comes first, then that of the partial plan, then that of the other arguments.
func TestGroupErrors(t *testing.T) {
	for _, x := range fails() {
		n, e := plan.Size(x.p)
		act, f := plan.Act(x.p, []int{0, 0}, 9, 9)
		swap, g := plan.Swap(x.p, []int{0, 0}, 9, 9)
		if len(plan.Group(x.p, 0)) != 0 || n != 0 || e != x.e || len(act) != 0 || f != x.e || len(swap) != 0 || g != x.e {
			t.Errorf("%v: %v, %d %d, %v %d, %v %d", x.p, plan.Group(x.p, 0), n, e, act, f, swap, g)
		}
	}
	for _, x := range []struct {
		part []int
		e    api.Errno
	}{{nil, api.ErrStale}, {[]int{0, 1}, api.ErrStale}, {[]int{0, 1, 6}, api.ErrSeat}, {[]int{0, -1, 0}, api.ErrTaken}} {
		for _, i := range []int{0, 9} {
			act, e := plan.Act(dinner(), x.part, i, i)
			swap, f := plan.Swap(dinner(), x.part, i, i)
			if len(act) != 0 || e != x.e || len(swap) != 0 || f != x.e {
				t.Errorf("%v: %v %d, %v %d", x.part, act, e, swap, f)
			}
		}
	}
}
