package rule_test

import (
	"math"
	"math/rand"
	"slices"
	"testing"

	"trestle/api"
	"trestle/hall"
	"trestle/rule"
)

// namedBy returns those on whom a rule's faults can depend, by the list of P4.6.
func namedBy(p api.Problem, r api.Rule) []int {
	var list []int
	for x, g := range p.Guests {
		has := func(kind api.TieKind) bool {
			return slices.ContainsFunc(p.Ties, func(t api.Tie) bool { return t.Kind == kind && (t.A == g.Name || t.B == g.Name) })
		}
		is := true
		switch r.Kind {
		case api.Apart, api.Beside, api.Across, api.Near, api.Together, api.At, api.Seat:
			is = g.Name == r.A || g.Name == r.B
		case api.Reach:
			is = g.Name == r.A || r.A == "" && g.Access
		case api.Alternate:
			is = g.Side == 1 || g.Side == 2
		case api.Peace:
			is = has(api.Feud)
		case api.Company:
			is = has(api.Friend)
		case api.Kitchen:
			is = g.Diet == r.A
		case api.Mix:
			is = g.Court != ""
		}
		if is {
			list = append(list, x)
		}
	}
	return list
}

// P4.6, P4.7: whom rules name, which are hard, and which seats they pin.
func TestParts(t *testing.T) {
	r := rand.New(rand.NewSource(4))
	for range 1000 {
		p := anyProblem(r)
		before := copied(p)
		var hard, weighed []int
		for i, x := range p.Rules {
			if x.Weight == 0 {
				hard = append(hard, i)
			} else {
				weighed = append(weighed, i)
			}
			if got := rule.Named(p, i); !slices.Equal(got, namedBy(p, x)) {
				t.Fatalf("%v of %v names %v", x, p, got)
			}
		}
		if !slices.Equal(rule.Hard(p), hard) || !slices.Equal(rule.Weighed(p), weighed) {
			t.Fatalf("%v: %v, %v", p.Rules, rule.Hard(p), rule.Weighed(p))
		}
		for i, table := range p.Tables {
			var pinned []int
			for seat := range hall.Count(p.Tables) {
				at, k, _ := hall.Where(p.Tables, seat)
				pins := func(x api.Rule) bool {
					return x.Kind == api.Seat && x.Table == table.Name && x.N == k ||
						x.Kind == api.Honour && (x.Table == "" || x.Table == table.Name) && hall.Level(p.Tables, seat) == 0
				}
				if at == i && slices.ContainsFunc(p.Rules, pins) {
					pinned = append(pinned, seat)
				}
			}
			if got := rule.Pinned(p, i); !slices.Equal(got, pinned) {
				t.Fatalf("%v at %d of %v: %v", p.Rules, i, p.Tables, got)
			}
		}
		if !sameProblem(p, before) {
			t.Fatal("a problem is changed")
		}
	}
}

// P4.7: a problem with some of its rules alone, which shares no memory with it.
func TestOnly(t *testing.T) {
	r := rand.New(rand.NewSource(5))
	for range 500 {
		p := anyProblem(r)
		before := copied(p)
		want := copied(p)
		want.Rules = nil
		var list []int
		for i, x := range p.Rules {
			if r.Intn(2) == 0 {
				want.Rules = append(want.Rules, x)
				list = append(list, i, i, pick(r, i, -1, len(p.Rules), math.MaxInt, math.MinInt))
			}
		}
		r.Shuffle(len(list), func(i, k int) { list[i], list[k] = list[k], list[i] })
		kept := slices.Clone(list)
		got := rule.Only(p, list)
		if !sameProblem(got, want) || !slices.Equal(list, kept) {
			t.Fatalf("Only(%v, %v): %v", p, list, got)
		}
		spoil(got)
		if !sameProblem(p, before) {
			t.Fatal("Only shares memory")
		}
	}
	p := dinner(api.Rule{Kind: api.Mix}, api.Rule{Kind: api.Reach})
	if q := rule.Only(p, nil); !sameProblem(q, dinner()) {
		t.Error("no rules", q)
	}
	if q := rule.Only(p, []int{1, 0}); !sameProblem(q, p) {
		t.Error("all rules", q)
	}
}

// P4.6, P4.7: problems that are not valid, rules and tables that do not exist.
func TestNoParts(t *testing.T) {
	rules := []api.Rule{{Kind: api.Honour}, {Kind: api.Mix, Weight: 1}}
	wrongs := []api.Problem{dinner(append(rules, api.Rule{})...), dinner(append(rules, api.Rule{Kind: api.Mix, N: 1})...), dinner(slices.Repeat(rules, 33)...), {Tables: dinner().Tables, Guests: crowd(9), Rules: rules}, {Tables: []api.Table{{}}, Rules: rules}}
	for _, p := range wrongs {
		for i := range 2 {
			if len(rule.Named(p, i)) != 0 || len(rule.Pinned(p, i)) != 0 {
				t.Errorf("rule or table %d of %v", i, p)
			}
		}
		if len(rule.Hard(p)) != 0 || len(rule.Weighed(p)) != 0 || !sameProblem(rule.Only(p, []int{0, 1}), api.Problem{}) {
			t.Errorf("rules of %v", p)
		}
	}
	p := dinner(rules...)
	for _, i := range []int{math.MinInt, -1, 2, 3, math.MaxInt} {
		if len(rule.Named(p, i)) != 0 || len(rule.Pinned(p, i)) != 0 {
			t.Errorf("there is a rule or table %d", i)
		}
	}
	if !slices.Equal(rule.Named(p, 0), []int{0, 1, 2, 3}) || len(rule.Named(p, 1)) != 0 || !slices.Equal(rule.Pinned(p, 0), []int{0}) || !slices.Equal(rule.Pinned(p, 1), []int{7}) {
		t.Error(rule.Named(p, 0), rule.Named(p, 1), rule.Pinned(p, 0), rule.Pinned(p, 1))
	}
	if len(rule.Hard(dinner())) != 0 || len(rule.Weighed(dinner())) != 0 || len(rule.Pinned(dinner(), 0)) != 0 {
		t.Error("a problem without rules has some")
	}
}
