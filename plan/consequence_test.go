package plan_test

import (
	"math/rand"
	"slices"
	"testing"

	"trestle/api"
	"trestle/hall"
	"trestle/plan"
	"trestle/rule"
)

// canonOf returns the canonical image of a partial plan.
func canonOf(t *testing.T, p api.Problem, part []int) []int {
	t.Helper()
	canon, e := plan.Canon(p, part)
	want(t, "Canon", e, api.OK)
	return canon
}

// turnedOn returns the image of a partial plan under some element of the group of the problem.
func turnedOn(t *testing.T, r *rand.Rand, p api.Problem, part []int) []int {
	t.Helper()
	for i := range p.Tables {
		image, e := plan.Act(p, part, i, r.Intn(len(plan.Group(p, i))))
		want(t, "Act", e, api.OK)
		part = image
	}
	return part
}

// P5.7: the order of the group is Orbit times Fixed; to be the same up to turning is an equivalence; an image has no other
// faults.
func TestTurning(t *testing.T) {
	r := rand.New(rand.NewSource(10))
	turned := 0
	for range 800 {
		p := anyProblem(r, 6)
		part := anyPart(r, p, r.Intn(2) == 0)
		orbit, e := plan.Orbit(p, part)
		fixed, f := plan.Fixed(p, part)
		order, g := plan.Size(p)
		if e != api.OK || f != api.OK || g != api.OK || orbit*fixed != order {
			t.Fatalf("%v of %v: orbit %d, fixed %d, order %d", part, p, orbit, fixed, order)
		}
		second := turnedOn(t, r, p, part)
		third := turnedOn(t, r, p, second)
		other := anyPart(r, p, true)
		if !plan.Same(p, part, part) || !plan.Same(p, part, second) || !plan.Same(p, second, part) || !plan.Same(p, part, third) {
			t.Fatalf("%v: images %v and %v", part, second, third)
		}
		if plan.Same(p, part, other) != plan.Same(p, third, other) || plan.Same(p, part, other) != slices.Equal(canonOf(t, p, part), canonOf(t, p, other)) {
			t.Fatalf("%v, its image %v and %v", part, third, other)
		}
		if canon := canonOf(t, p, third); !slices.Equal(canon, canonOf(t, p, part)) || !slices.Equal(canon, canonOf(t, p, canon)) || !plan.Same(p, canon, part) {
			t.Fatalf("%v and its image %v: canonical %v", part, third, canon)
		}
		if !slices.Equal(part, second) {
			turned++
		}
		j, _, e := rule.New(p)
		want(t, "New", e, api.OK)
		if !slices.Equal(j.Score(part), j.Score(second)) || j.Floor(part) != j.Floor(second) {
			t.Fatalf("%v: %v has the faults %v, its image %v %v", p, part, j.Score(part), second, j.Score(second))
		}
	}
	if turned < 150 {
		t.Errorf("only %d were turned", turned)
	}
}

// P5.7: the number of classes is the number of canonical plans, and each class has one; Rank and Unrank undo each other, and
// the plan after a plan has the next number.
func TestAllPlans(t *testing.T) {
	r := rand.New(rand.NewSource(11))
	for range 100 {
		p := anyProblem(r, 3)
		plans, classes, e := plan.Count(p)
		want(t, "Count", e, api.OK)
		canonical := map[string]bool{}
		own := 0
		x, e := plan.Unrank(p, 0)
		want(t, "Unrank", e, api.OK)
		for i := range plans {
			n, e := plan.Rank(p, x)
			y, f := plan.Unrank(p, n)
			if n != i || e != api.OK || !slices.Equal(x, y) || f != api.OK {
				t.Fatalf("%v: %v has the number %d, %d; this is %v, %d", p, x, n, e, y, f)
			}
			canon := canonOf(t, p, x)
			canonical[plan.Format(p, canon)] = true
			if slices.Equal(canon, x) {
				own++
			}
			next, ok := plan.Next(p, x)
			if ok != (i < plans-1) {
				t.Fatalf("%v: after %v comes %v", p, x, next)
			}
			x = next
		}
		if own != classes || len(canonical) != classes {
			t.Fatalf("%v: %d classes, %d canonical plans, %d canonical images", p, classes, own, len(canonical))
		}
	}
}

// fewest returns the least number of moves from one partial plan to another one, by going through all that can be reached.
func fewest(p api.Problem, a, b []int) int {
	front, seen := [][]int{a}, map[string]bool{plan.Format(p, a): true}
	for n := 0; ; n++ {
		var next [][]int
		for _, now := range front {
			if slices.Equal(now, b) {
				return n
			}
			for g := range now {
				for to := -1; to < hall.Count(p.Tables); to++ {
					after, _, e := plan.Do(p, now, []api.Move{{Guest: g, From: now[g], To: to}})
					if text := plan.Format(p, after); e == api.OK && !seen[text] {
						seen[text] = true
						next = append(next, after)
					}
				}
			}
		}
		front = next
	}
}

// P5.7: Do makes the moves that Moves returns and arrives; no list of moves that it makes is shorter.
func TestFewestMoves(t *testing.T) {
	r := rand.New(rand.NewSource(12))
	for _, p := range []api.Problem{feast(4, api.Table{Shape: api.Row, A: 4}), feast(3, api.Table{Shape: api.Row, A: 4}), feast(3, api.Table{Shape: api.Row, A: 3}), feast(2, api.Table{Shape: api.Row, A: 2})} {
		for range 20 {
			a, b := anyPart(r, p, r.Intn(3) > 0), anyPart(r, p, r.Intn(3) > 0)
			l, e := plan.Moves(p, a, b)
			end, _, f := plan.Do(p, a, l)
			if n := fewest(p, a, b); len(l) != n || e != api.OK || !slices.Equal(end, b) || f != api.OK {
				t.Fatalf("from %v to %v: %v, where %d are enough; at %v", a, b, l, n, end)
			}
		}
	}
}

// P5.7: Parse of what Format returns gives the same partial plan, also of the largest problem.
func TestThereAndBack(t *testing.T) {
	r := rand.New(rand.NewSource(13))
	large := feast(64, slices.Repeat([]api.Table{{Shape: api.Long, A: 11, B: 2}}, 16)...)
	for i := range 500 {
		p := anyProblem(r, 8)
		if i%50 == 0 {
			p = large
		}
		part := anyPart(r, p, i%2 == 0)
		if got, line, e := plan.Parse(p, plan.Format(p, part)); !slices.Equal(got, part) || line != 0 || e != api.OK {
			t.Fatalf("%v of %v: %v, %d, %d", part, p, got, line, e)
		}
	}
}

// P1: every function answers, whatever its arguments are, and changes none of them; with an error it answers nothing else.
func TestAnyArgument(t *testing.T) {
	r := rand.New(rand.NewSource(14))
	number := func() int { return pick(r, strange()...) }
	numbers := func() []int {
		list := make([]int, r.Intn(8))
		for i := range list {
			list[i] = number()
		}
		return list
	}
	name := func() string { return pick(r, "", "-", "a", "aa", "top", "sun", "A", "\xff", "a b", "a\n") }
	for range 4000 {
		p := anyProblem(r, 5)
		switch r.Intn(8) {
		case 0:
			p.Class = numbers()
		case 1:
			p.Tables = append(p.Tables, api.Table{Name: name(), Shape: api.Shape(r.Intn(6)), A: number(), B: number(), Open: numbers(), X: number()})
		case 2:
			p.Guests = append(p.Guests, api.Guest{Name: name(), Side: number(), Since: number()})
		case 3:
			p.Rules = append(p.Rules, api.Rule{Kind: api.RuleKind(r.Intn(20)), Weight: number(), A: name(), B: name(), Table: name(), N: number()})
		}
		a, b := numbers(), numbers()
		if p := p; r.Intn(2) == 0 && len(p.Guests) <= hall.Count(p.Tables) {
			a, b = anyPart(r, p, false), anyPart(r, p, true)
		}
		first, second := slices.Clone(a), slices.Clone(b)
		var moves []api.Move
		for range r.Intn(4) {
			moves = append(moves, api.Move{Guest: number(), From: number(), To: number()})
		}
		silent := func(what string, l []int, n int, e api.Errno) {
			if e != api.OK && (len(l) != 0 || n != 0) {
				t.Fatalf("%s with error %d: %v, %d", what, e, l, n)
			}
		}
		_, e := plan.CheckPart(p, a)
		_, f := plan.Check(p, b)
		if e != api.OK && (len(plan.Free(p, a)) != 0 || len(plan.Guests(p, a, 0)) != 0 || plan.Format(p, a) != "" || plan.Same(p, a, b)) {
			t.Fatal(p, a, e)
		}
		if next, ok := plan.Next(p, b); f != api.OK && (len(next) != 0 || ok) {
			t.Fatal(p, b, f)
		}
		plan.Group(p, number())
		plan.Guests(p, a, number())
		plan.At(p, a, number())
		plan.Work(p)
		plan.Moved(a, b)
		n, e := plan.Size(p)
		silent("Size", nil, n, e)
		l, e := plan.Act(p, a, number(), number())
		silent("Act", l, 0, e)
		l, e = plan.Swap(p, a, number(), number())
		silent("Swap", l, 0, e)
		l, e = plan.Canon(p, a)
		silent("Canon", l, 0, e)
		n, e = plan.Orbit(p, a)
		silent("Orbit", nil, n, e)
		n, e = plan.Fixed(p, a)
		silent("Fixed", nil, n, e)
		n, k, e := plan.Count(p)
		silent("Count", nil, max(n, k), e)
		n, e = plan.Rank(p, b)
		silent("Rank", nil, n, e)
		l, e = plan.Unrank(p, number())
		silent("Unrank", l, 0, e)
		steps, e := plan.Moves(p, a, b)
		silent("Moves", nil, len(steps), e)
		l, _, e = plan.Do(p, a, moves)
		silent("Do", l, 0, e)
		l, _, e = plan.Parse(p, "seat "+name()+" "+name()+" 0\n")
		silent("Parse", l, 0, e)
		if !slices.Equal(a, first) || !slices.Equal(b, second) {
			t.Fatal("a partial plan is changed")
		}
	}
}
