package plan_test

import (
	"math/rand"
	"slices"
	"testing"

	"trestle/api"
	"trestle/plan"
)

// P5.3: the canonical image, the orbit and what leaves a partial plan as it is, by all images.
func TestClasses(t *testing.T) {
	r := rand.New(rand.NewSource(5))
	for range 800 {
		p := anyProblem(r, 6)
		group := wholeGroup(p)
		part := anyPart(r, p, r.Intn(2) == 0)
		before := slices.Clone(part)
		images := imagesOf(group, part)
		own := 0
		for _, x := range images {
			if slices.Equal(x, part) {
				own++
			}
		}
		canon, e := plan.Canon(p, part)
		if e != api.OK || !slices.Equal(canon, images[0]) {
			t.Fatalf("%v of %v: canonical %v, %d, not %v", part, p, canon, e, images[0])
		}
		if n, e := plan.Fixed(p, part); n != own || e != api.OK {
			t.Fatalf("%v of %v: fixed %d, %d, not %d", part, p, n, e, own)
		}
		different := slices.CompactFunc(slices.Clone(images), slices.Equal[[]int])
		if n, e := plan.Orbit(p, part); n != len(different) || e != api.OK {
			t.Fatalf("%v of %v: orbit %d, %d, not %d", part, p, n, e, len(different))
		}
		for _, other := range [][]int{pick(r, images...), anyPart(r, p, true), anyPart(r, p, false), part} {
			_, is := slices.BinarySearchFunc(images, other, slices.Compare[[]int])
			if plan.Same(p, part, other) != is || plan.Same(p, other, part) != is {
				t.Fatalf("%v and %v of %v: the same: %v", part, other, p, !is)
			}
		}
		for g := range canon {
			canon[g] = -7
		}
		if !slices.Equal(part, before) {
			t.Fatal("a partial plan is changed")
		}
	}
}

// P5.3: the chapter's examples, and some more.
func TestClassesExamples(t *testing.T) {
	pinned := dinner(api.Rule{Kind: api.Seat, A: "ann", Table: "sun", N: 2})
	for _, x := range []struct {
		p            api.Problem
		part, canon  []int
		orbit, fixed int
	}{
		{dinner(), []int{2, 1, 5}, []int{0, 1, 4}, 16, 1},
		{dinner(), []int{2, 0, 5}, []int{0, 2, 4}, 8, 2},
		{dinner(), []int{5, 4, 3}, []int{4, 5, 0}, 8, 2},
		{dinner(), []int{-1, 3, 5}, []int{-1, 0, 4}, 8, 2},
		{dinner(), []int{-1, -1, -1}, []int{-1, -1, -1}, 1, 16},
		{pinned, []int{2, 3, 5}, []int{2, 1, 4}, 4, 1},
		{pinned, []int{2, 0, -1}, []int{2, 0, -1}, 1, 4},
		{api.Problem{}, nil, nil, 1, 1},
	} {
		canon, e := plan.Canon(x.p, x.part)
		orbit, f := plan.Orbit(x.p, x.part)
		fixed, g := plan.Fixed(x.p, x.part)
		if !slices.Equal(canon, x.canon) || e != api.OK || orbit != x.orbit || f != api.OK || fixed != x.fixed || g != api.OK {
			t.Errorf("%v: canonical %v, orbit %d, fixed %d", x.part, canon, orbit, fixed)
		}
	}
	for _, x := range []struct {
		a, b []int
		same bool
	}{
		{[]int{2, 1, 5}, []int{0, 1, 4}, true},
		{[]int{2, 1, 5}, []int{0, 3, 5}, true},
		{[]int{2, 1, 5}, []int{0, 2, 4}, false},
		{[]int{2, -1, 5}, []int{0, -1, 4}, true},
		{[]int{2, -1, 5}, []int{0, 1, 4}, false},
		{[]int{2, 1, 5}, []int{0, 1}, false},
		{[]int{0, 0, 0}, []int{0, 0, 0}, false},
		{nil, nil, false},
		{[]int{0, 1, 6}, []int{0, 1, 6}, false},
	} {
		if plan.Same(dinner(), x.a, x.b) != x.same || plan.Same(dinner(), x.b, x.a) != x.same {
			t.Errorf("%v and %v are the same: %v", x.a, x.b, !x.same)
		}
	}
	if !plan.Same(api.Problem{}, nil, []int{}) {
		t.Error("two plans for nobody")
	}
}

// P5.3: whatever the order of the group is, there is a canonical image; orbits are counted up to the order 2^30.
func TestClassesLimit(t *testing.T) {
	var part, canon []int
	for i := range 64 {
		// Two pairs sit at each table, each guest on the last seats that are free there.
		part, canon = append(part, i/4*24+23-i%4), append(canon, i/4*24+i%4)
	}
	for _, tables := range []int{5, 6, 16} {
		p := feast(4*tables, slices.Repeat([]api.Table{{Shape: api.Round, A: 24}}, tables)...)
		got, e := plan.Canon(p, part[:4*tables])
		if e != api.OK || !slices.Equal(got, canon[:4*tables]) || !plan.Same(p, part[:4*tables], got) {
			t.Errorf("%d tables: %v, %d", tables, got, e)
		}
		orbit, e := plan.Orbit(p, got)
		fixed, f := plan.Fixed(p, got)
		if tables == 5 && (orbit != 48*48*48*48*48 || e != api.OK || fixed != 1 || f != api.OK) || tables > 5 && (orbit != 0 || e != api.ErrLarge || fixed != 0 || f != api.ErrLarge) {
			t.Errorf("%d tables: orbit %d, %d, fixed %d, %d", tables, orbit, e, fixed, f)
		}
	}
	p := large(1, false)
	orbit, e := plan.Orbit(p, []int{-1})
	fixed, f := plan.Fixed(p, []int{-1})
	if orbit != 1 || e != api.OK || fixed != 1<<30 || f != api.OK {
		t.Errorf("order 2^30: orbit %d, %d, fixed %d, %d", orbit, e, fixed, f)
	}
}

// P5.3: the problem's error comes first, then that of the partial plan, then that of the order.
func TestClassesErrors(t *testing.T) {
	ask := func(p api.Problem, part []int, asked api.Errno) {
		t.Helper()
		canon, e := plan.Canon(p, part)
		orbit, f := plan.Orbit(p, part)
		fixed, g := plan.Fixed(p, part)
		if len(canon) != 0 || e != asked || orbit != 0 || f != asked || fixed != 0 || g != asked {
			t.Errorf("%v: %v %d, %d %d, %d %d, not %d", part, canon, e, orbit, f, fixed, g, asked)
		}
		if plan.Same(p, part, part) || plan.Same(p, part, []int{0, 1, 2}) || plan.Same(p, []int{0, 1, 2}, part) {
			t.Errorf("%v is the same as something", part)
		}
	}
	for _, x := range fails() {
		for _, part := range [][]int{nil, {0, 1, 2}, {0, 0, 9}} {
			ask(x.p, part, x.e)
		}
	}
	for _, p := range []api.Problem{dinner(), large(3, true)} {
		ask(p, nil, api.ErrStale)
		ask(p, []int{0, 1}, api.ErrStale)
		ask(p, []int{0, 1, 384}, api.ErrSeat)
		ask(p, []int{0, -2, 384}, api.ErrSeat)
		ask(p, []int{1, 0, 1}, api.ErrTaken)
	}
}
