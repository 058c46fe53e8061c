package conflict_test

import (
	"math/rand"
	"slices"
	"testing"

	"trestle/api"
	"trestle/conflict"
)

// P7.3: the plan that breaks the fewest hard rules; of those the cheapest, of those the first.
func TestNearest(t *testing.T) {
	r := rand.New(rand.NewSource(7))
	broken, dear := 0, 0
	for range 600 {
		m := modelOf(t, anyProblem(r, 130, r.Intn(11)))
		best := m.plans[0]
		for _, x := range m.plans[1:] {
			if len(x.broken) < len(best.broken) || len(x.broken) == len(best.broken) && x.cost < best.cost {
				best = x
			}
		}
		x, rules, e := conflict.Nearest(m.p)
		if !slices.Equal(x, best.plan) || !slices.Equal(rules, best.broken) || e != api.OK {
			t.Fatalf("%v: %v, %v, %d, not %v", m.p, x, rules, e, best)
		}
		if len(rules) > 0 {
			broken++
		}
		// An earlier plan breaks no more rules, but costs more.
		for _, x := range m.plans {
			if len(x.broken) == len(best.broken) {
				if x.cost > best.cost {
					dear++
				}
				break
			}
		}
	}
	if broken < 100 || dear < 30 {
		t.Errorf("%d times some rule has to be broken, %d times an earlier plan costs more", broken, dear)
	}
}

// P7.3: the chapter's example 2; few rules come before little cost, and how many faults a rule has does not matter.
func TestNearestExamples(t *testing.T) {
	for _, x := range []struct {
		p            api.Problem
		plan, broken []int
	}{
		{example(t), []int{0, 1, 3}, []int{1, 2}},
		{sun(t, ""), []int{0, 1, 2}, nil},
		{sun(t, "weigh 5 beside ann bob\nhard across ann bob\n"), []int{0, 2, 1}, nil},
		{sun(t, "weigh 5 limit sun 0\nhard beside ann bob\nhard limit sun 0\n"), []int{0, 1, 2}, []int{2}},
		{sun(t, "hard seat ann sun 2\nhard seat bob sun 2\nweigh 1 seat cid sun 0\nweigh 1 seat ann sun 1\n"), []int{1, 2, 0}, []int{0}},
		{api.Problem{}, nil, nil},
		{feast(0, 7), nil, nil},
	} {
		plan, broken, e := conflict.Nearest(x.p)
		if !slices.Equal(plan, x.plan) || !slices.Equal(broken, x.broken) || e != api.OK {
			t.Errorf("%v: %v, %v, %d, not %v, %v", x.p.Rules, plan, broken, e, x.plan, x.broken)
		}
	}
	// One rule with three faults is broken less than two rules with one each.
	p := sun(t, "hard peace -\nhard across ann bob\nhard across ann bob\nhard across ann bob\n")
	for _, pair := range [][2]string{{"ann", "bob"}, {"ann", "cid"}, {"bob", "cid"}} {
		p.Ties = append(p.Ties, api.Tie{A: pair[0], B: pair[1], Kind: api.Feud})
	}
	plan, broken, e := conflict.Nearest(p)
	if !slices.Equal(plan, []int{0, 2, 1}) || !slices.Equal(broken, []int{0}) || e != api.OK {
		t.Error(plan, broken, e)
	}
}

// P7.3: a problem of nearly MaxWork plans, of which the best is one of the last ones.
func TestNearestNearLimit(t *testing.T) {
	p := feast(2, 141)
	p.Rules = rulesOf(t, "hard seat a tf 20\nhard at aa tf\nweigh 9 apart a aa 5\nweigh 1 near a aa 6\nhard at aa ta\n")
	plan, broken, e := conflict.Nearest(p)
	if !slices.Equal(plan, []int{140, 124}) || !slices.Equal(broken, []int{4}) || e != api.OK {
		t.Error(plan, broken, e)
	}
}

// P7.3: a problem's error, or ErrLarge.
func TestNearestErrors(t *testing.T) {
	for _, x := range fails() {
		if plan, broken, e := conflict.Nearest(x.p); plan != nil || broken != nil || e != x.e {
			t.Errorf("%v, %v, %d, not %d", plan, broken, e, x.e)
		}
	}
	for _, p := range larges(t) {
		if plan, broken, e := conflict.Nearest(p); plan != nil || broken != nil || e != api.ErrLarge {
			t.Errorf("%v, %v, %d", plan, broken, e)
		}
	}
}
