package rule_test

import (
	"math"
	"math/rand"
	"slices"
	"testing"

	"trestle/api"
	"trestle/hall"
	"trestle/rule"
)

// P4.8: the faults of a rule do not depend on where guests sit whom it does not name, if the same guests are seated.
func TestOthersMove(t *testing.T) {
	r := rand.New(rand.NewSource(6))
	moved := 0
	for range 1500 {
		p := anyProblem(r)
		j := judge(t, p)
		part := anyPart(r, p, false)
		for i := range p.Rules {
			named := rule.Named(p, i)
			var free []int
			for seat := range hall.Count(p.Tables) {
				if x := slices.Index(part, seat); x < 0 || !slices.Contains(named, x) {
					free = append(free, seat)
				}
			}
			r.Shuffle(len(free), func(i, k int) { free[i], free[k] = free[k], free[i] })
			other := slices.Clone(part)
			for x := range other {
				if other[x] >= 0 && !slices.Contains(named, x) {
					other[x], free = free[0], free[1:]
					moved++
				}
			}
			if j.Faults(part, i) != j.Faults(other, i) || j.Least(part, i) != j.Least(other, i) || !slices.Equal(j.Blame(part, i), j.Blame(other, i)) {
				t.Fatalf("%v of %v: %v and %v", p.Rules[i], p, part, other)
			}
		}
	}
	if moved < 1000 {
		t.Errorf("only %d guests moved", moved)
	}
}

// P4.8: who is seated besides makes no certain faults fewer; in a plan they are the faults; so a dead rule stays broken, and
// no plan behind a partial plan costs less than its floor.
func TestExtensions(t *testing.T) {
	r := rand.New(rand.NewSource(7))
	dead := 0
	for range 1500 {
		p := anyProblem(r)
		j := judge(t, p)
		plan := anyPart(r, p, true)
		part := slices.Clone(plan)
		less := make([]int, len(p.Rules))
		for i := range less {
			less[i] = j.Least(part, i)
		}
		if !slices.Equal(less, j.Score(plan)) || j.Floor(plan) != j.Cost(plan) {
			t.Fatalf("%v in %v: %v, %v", plan, p, less, j.Score(plan))
		}
		for _, x := range r.Perm(len(part)) {
			part[x] = -1
			for i := range p.Rules {
				least := j.Least(part, i)
				if least > less[i] || least > j.Faults(part, i) {
					t.Fatalf("%v of %v: %d in %v, then %d", p.Rules[i], p, least, part, less[i])
				}
				less[i] = least
			}
			i, is := j.Dead(part)
			if is {
				dead++
			}
			if is && !slices.Contains(j.Broken(plan), i) || j.Floor(part) > j.Cost(plan) {
				t.Fatalf("%v of %v: %d, %d", part, p, i, j.Floor(part))
			}
		}
	}
	if dead < 1000 {
		t.Errorf("only %d dead rules", dead)
	}
}

// P4.8: a rule has faults only if somebody is to blame, but for Fill.
func TestSomebodyToBlame(t *testing.T) {
	r := rand.New(rand.NewSource(8))
	for range 1500 {
		p := anyProblem(r)
		j := judge(t, p)
		part := anyPart(r, p, false)
		for i, x := range p.Rules {
			faults, blamed := j.Faults(part, i), j.Blame(part, i)
			if (faults == 0) != (len(blamed) == 0) && (x.Kind != api.Fill || faults == 0) {
				t.Fatalf("%v of %v in %v: %d, %v", x, p, part, faults, blamed)
			}
			for _, guest := range blamed {
				if part[guest] < 0 || !slices.Contains(rule.Named(p, i), guest) {
					t.Fatalf("%v of %v in %v blames %v", x, p, part, blamed)
				}
			}
		}
	}
}

// P4.8: a symmetry of a table that leaves pinned seats where they are changes no rule's faults.
func TestTurnedTables(t *testing.T) {
	r := rand.New(rand.NewSource(9))
	turned := 0
	for range 1500 {
		p := anyProblem(r)
		// With some of the rules there are fewer pinned seats.
		p = rule.Only(p, r.Perm(len(p.Rules))[:r.Intn(len(p.Rules))])
		j := judge(t, p)
		part := anyPart(r, p, false)
		for i, table := range p.Tables {
			first := hall.First(p.Tables, i)
			var pinned []int
			for _, seat := range rule.Pinned(p, i) {
				pinned = append(pinned, seat-first)
			}
			for _, turn := range hall.Stay(table, pinned) {
				image := slices.Clone(part)
				for x, seat := range part {
					if at, k, ok := hall.Where(p.Tables, seat); ok && at == i {
						image[x] = first + turn[k]
					}
				}
				if !slices.Equal(image, part) {
					turned++
				}
				if !slices.Equal(j.Score(part), j.Score(image)) || j.Floor(part) != j.Floor(image) {
					t.Fatalf("%v: %v and %v", p, part, image)
				}
			}
		}
	}
	if turned < 300 {
		t.Errorf("only %d turns", turned)
	}
}

// P1: every function answers, whatever its arguments are, and changes none of them.
func TestAnyArgument(t *testing.T) {
	r := rand.New(rand.NewSource(10))
	number := func() int { return pick(r, math.MinInt, -1, 0, 0, 1, 2, 3, 24, 25, 64, math.MaxInt) }
	name := func() string {
		return pick(r, "", "-", "a", "aa", "aaa", "top", "sun", "vegan", "A", "\xff", "a b", "a\n")
	}
	numbers := func() []int {
		list := make([]int, r.Intn(8))
		for i := range list {
			list[i] = number()
		}
		return list
	}
	for range 5000 {
		p := anyProblem(r)
		switch r.Intn(8) {
		case 0:
			p.Class = numbers()
		case 1:
			p.Tables[0] = api.Table{Name: name(), Shape: api.Shape(r.Intn(6)), A: number(), B: number(), Open: numbers(), X: number()}
		case 2:
			p.Guests[0] = api.Guest{Name: name(), Court: name(), Diet: name(), Side: number(), Since: number(), Tongues: []string{name(), name()}}
		case 3:
			p.Ties = append(p.Ties, api.Tie{A: name(), B: name(), Kind: api.TieKind(r.Intn(4))})
		case 4, 5:
			p.Rules[r.Intn(len(p.Rules))] = api.Rule{Kind: api.RuleKind(r.Intn(20)), Weight: number(), A: name(), B: name(), Table: name(), N: number()}
		}
		before := copied(p)
		part := numbers()
		if r.Intn(2) == 0 {
			part = make([]int, len(p.Guests))
			for x := range part {
				part[x] = pick(r, x, x, x, -1, number())
			}
		}
		_, e := rule.Check(p)
		if l := rule.Hard(p); e != api.OK && len(l) != 0 {
			t.Fatal(p, l)
		}
		rule.CheckRule(p, api.Rule{Kind: api.RuleKind(r.Intn(20)), Weight: number(), A: name(), B: name(), Table: name(), N: number()})
		rule.Named(p, number())
		rule.Weighed(p)
		rule.Only(p, numbers())
		rule.Pinned(p, number())
		rule.Parse("hard " + name() + " " + name() + " " + name() + "\n")
		rule.Format(p.Rules)
		j, i, f := rule.New(p)
		if f != e || (j == nil) != (e != api.OK) || e == api.OK && i != 0 {
			t.Fatal(p, i, e, f)
		}
		// A judge of a problem that is not valid is nil, and has to answer too.
		valid := j.Valid(part)
		if len(j.Score(part)) != 0 && !valid || len(j.Broken(part)) != 0 && !valid || j.Right(part) && !valid || j.Faults(part, number()) != 0 && !valid {
			t.Fatal(p, part)
		}
		j.Least(part, number())
		j.Cost(part)
		j.Floor(part)
		j.Dead(part)
		j.Blame(part, number())
		if !sameProblem(p, before) || j != nil && !sameProblem(j.Problem(), p) {
			t.Fatal("a problem is changed", p)
		}
	}
}
