package search_test

import (
	"math"
	"math/rand"
	"slices"
	"testing"

	"trestle/api"
	"trestle/hall"
	"trestle/search"
)

// treeOf returns the size of the plain tree, which seats one guest after the other.
func treeOf(p api.Problem) int {
	seats := hall.Count(p.Tables)
	sum := 0
	for k := range len(p.Guests) + 1 {
		nodes := 1
		for i := range k {
			nodes *= seats - i
		}
		sum += nodes
	}
	return sum
}

// P6.6: proofs of whatever is true, of at most as many steps as the plain tree has; ErrFalse of what is not.
func TestProve(t *testing.T) {
	r := rand.New(rand.NewSource(6))
	proved, refused := 0, 0
	for range 400 {
		m := modelOf(t, anyProblem(r, 210, r.Intn(8)))
		tree, e := search.Tree(m.p)
		if tree != treeOf(m.p) || e != api.OK {
			t.Fatalf("%v: the plain tree has %d nodes, %d", m.p, tree, e)
		}
		bounds := []int{math.MinInt, -2, -1, 0, 1, 7, 1000, math.MaxInt}
		for _, x := range ranked(m.right) {
			bounds = append(bounds, x.Cost, x.Cost+1)
		}
		slices.Sort(bounds)
		for _, bound := range slices.Compact(bounds) {
			steps, e := search.Prove(m.p, bound)
			if !m.holds(bound) {
				if steps != nil || e != api.ErrFalse {
					t.Fatalf("%v, bound %d: %v, %d", m.p, bound, steps, e)
				}
				refused++
				continue
			}
			if e != api.OK || len(steps) > tree {
				t.Fatalf("%v, bound %d: %d steps of %d, %d", m.p, bound, len(steps), tree, e)
			}
			at, f := search.Verify(m.p, bound, steps)
			n, g := m.told(bound, steps)
			if at != 0 || f != api.OK || n != 0 || g != api.OK {
				t.Fatalf("%v, bound %d: %v is %d, %d", m.p, bound, steps, at, f)
			}
			proved++
		}
	}
	if proved < 500 || refused < 500 {
		t.Errorf("%d proofs, %d refused", proved, refused)
	}
}

// P6.6: the best plan with a proof that none is better, or ErrNone.
func TestCertify(t *testing.T) {
	r := rand.New(rand.NewSource(7))
	none := 0
	for range 400 {
		m := modelOf(t, anyProblem(r, 210, r.Intn(8)))
		best, steps, e := search.Certify(m.p)
		if len(m.right) == 0 {
			if best.Plan != nil || best.Cost != 0 || steps != nil || e != api.ErrNone {
				t.Fatalf("%v: %v, %v, %d", m.p, best, steps, e)
			}
			none++
			continue
		}
		if !equalRanked([]api.Ranked{best}, ranked(m.right)[:1]) || e != api.OK || len(steps) > treeOf(m.p) {
			t.Fatalf("%v: %v, %d steps, %d", m.p, best, len(steps), e)
		}
		if at, e := search.Verify(m.p, best.Cost, steps); at != 0 || e != api.OK {
			t.Fatalf("%v: %v is %d, %d", m.p, steps, at, e)
		}
	}
	if none < 40 {
		t.Errorf("only %d problems have no right plan", none)
	}
}

// P6.6: the chapter's example 1; turns make the proof shorter than the plain one.
func TestProveExamples(t *testing.T) {
	p := ring(apart)
	tree, e := search.Tree(p)
	if tree != 41 || e != api.OK {
		t.Error("the plain tree", tree, e)
	}
	for _, bound := range []int{math.MinInt, -1, 0, 3, math.MaxInt} {
		steps, e := search.Prove(p, bound)
		at, f := search.Verify(p, bound, steps)
		if e != api.OK || at != 0 || f != api.OK || len(steps) > 17 {
			t.Errorf("bound %d: %v, %d, %d, %d", bound, steps, e, at, f)
		}
	}
	if best, steps, e := search.Certify(p); best.Plan != nil || best.Cost != 0 || steps != nil || e != api.ErrNone {
		t.Error(best, steps, e)
	}
	for _, bound := range []int{math.MinInt, -1, 1, 5, math.MaxInt} {
		if steps, e := search.Prove(ring(across), bound); steps != nil || e != api.ErrFalse {
			t.Errorf("bound %d: %v, %d", bound, steps, e)
		}
	}
	// At bound 0 nothing has to be searched.
	if steps, e := search.Prove(ring(across), 0); len(steps) == 0 || len(steps) > 41 || e != api.OK {
		t.Error(steps, e)
	}
	for _, p := range []api.Problem{{}, feast(0, api.Table{Shape: api.Row, A: 3})} {
		tree, e := search.Tree(p)
		steps, f := search.Prove(p, 0)
		if tree != 1 || e != api.OK || !slices.Equal(steps, []api.Step{dear()}) || f != api.OK {
			t.Error("nobody", tree, e, steps, f)
		}
		if steps, e := search.Prove(p, -1); steps != nil || e != api.ErrFalse {
			t.Error("nobody", steps, e)
		}
	}
}

// P6.6: problems of nearly MaxWork plans, where a proof has to go through nearly all of the plain tree, or may pass over much.
func TestProveNearLimit(t *testing.T) {
	// The last guest's two seats are a cost as soon as that guest is seated, and the row is not turned as they are pinned.
	row := feast(3, api.Table{Shape: api.Row, A: 24})
	for n := range 2 {
		row.Rules = append(row.Rules, api.Rule{Kind: api.Seat, A: "aaa", Table: "ta", N: n, Weight: 1})
	}
	circle := feast(5, api.Table{Shape: api.Round, A: 9})
	circle.Rules = []api.Rule{{Kind: api.Speak}, {Kind: api.Beside, A: "a", B: "aa"}}
	halls := pair(141)
	halls.Rules = []api.Rule{{Kind: api.Together, A: "a", B: "aa"}, {Kind: api.Apart, A: "a", B: "aa"}}
	for _, p := range []api.Problem{row, circle, halls} {
		tree, e := search.Tree(p)
		if tree != treeOf(p) || e != api.OK {
			t.Errorf("a tree of %d nodes, %d, not %d", tree, e, treeOf(p))
		}
		steps, e := search.Prove(p, 1)
		if e != api.OK || len(steps) > tree {
			t.Errorf("%d steps of %d, %d", len(steps), tree, e)
		}
		if at, e := search.Verify(p, 1, steps); at != 0 || e != api.OK {
			t.Errorf("%d steps: %d, %d", len(steps), at, e)
		}
	}
}

// P6.6: a problem's error comes first, then ErrLarge, then the others.
func TestProveErrors(t *testing.T) {
	ask := func(p api.Problem, asked api.Errno) {
		t.Helper()
		if tree, e := search.Tree(p); tree != 0 || e != asked {
			t.Errorf("Tree %d, %d, not %d", tree, e, asked)
		}
		for _, bound := range []int{-1, 0, 5} {
			if steps, e := search.Prove(p, bound); steps != nil || e != asked {
				t.Errorf("Prove %v, %d, not %d", steps, e, asked)
			}
		}
		if best, steps, e := search.Certify(p); best.Plan != nil || best.Cost != 0 || steps != nil || e != asked {
			t.Errorf("Certify %v, %v, %d, not %d", best, steps, e, asked)
		}
	}
	for _, x := range fails() {
		ask(x.p, x.e)
	}
	p := pair(142)
	ask(p, api.ErrLarge)
	p.Rules = []api.Rule{{Kind: api.Limit}}
	ask(p, api.ErrLarge)
}
