package search_test

import (
	"math/rand"
	"reflect"
	"slices"
	"testing"

	"trestle/api"
	"trestle/hall"
	"trestle/plan"
	"trestle/rule"
	"trestle/search"
)

// P6.8: the sum of the orbits of the canonical right plans is the number of right plans, as the costs have it; without hard
// rules there are as many classes as Burnside's lemma says (P3).
func TestCountedOnce(t *testing.T) {
	r := rand.New(rand.NewSource(9))
	burnside := 0
	for range 300 {
		p := anyProblem(r, 1000, r.Intn(6))
		plans, classes, e := search.Count(p)
		all, f := search.All(p, classes)
		costs, g := search.Costs(p)
		if e != api.OK || f != api.OK || g != api.OK || len(all) != classes {
			t.Fatal(p, e, f, g, len(all), classes)
		}
		sum := 0
		for _, x := range all {
			canon, _ := plan.Canon(p, x)
			orbit, e := plan.Orbit(p, x)
			if !slices.Equal(canon, x) || e != api.OK {
				t.Fatalf("%v: %v is not canonical: %v, %d", p, x, canon, e)
			}
			sum += orbit
		}
		for _, b := range costs {
			plans -= b.Plans
			classes -= b.Classes
			sum -= b.Plans
		}
		if plans != 0 || classes != 0 || sum != 0 {
			t.Fatalf("%v: %v differs by %d plans, %d classes, %d in all orbits", p, costs, plans, classes, sum)
		}
		if len(rule.Hard(p)) == 0 {
			plans, classes, e := search.Count(p)
			n, k, f := plan.Count(p)
			if plans != n || classes != k || e != api.OK || f != api.OK {
				t.Fatalf("%v: %d plans, %d classes, not %d, %d", p, plans, classes, n, k)
			}
			burnside++
		}
	}
	if burnside < 40 {
		t.Errorf("only %d problems without hard rules", burnside)
	}
}

// P6.8: the best plan is the first one of the ranking, and it has a proof that none costs less (P4); the costs begin with its
// cost. The first plan is the first canonical one, and extends the empty partial plan.
func TestBestIsFirst(t *testing.T) {
	r := rand.New(rand.NewSource(10))
	for range 300 {
		p := anyProblem(r, 1000, r.Intn(6))
		best, e := search.Best(p)
		first, f := search.First(p)
		costs, _ := search.Costs(p)
		ranking, _ := search.Ranking(p, 1)
		all, _ := search.All(p, 100000)
		extended, g := search.Extend(p, slices.Repeat([]int{-1}, len(p.Guests)))
		is, _ := search.Exists(p)
		if !is {
			if e != api.ErrNone || f != api.ErrNone || g != api.ErrNone || len(costs) != 0 || len(ranking) != 0 || len(all) != 0 {
				t.Fatal(p, best, first, extended, costs, ranking, all)
			}
			continue
		}
		if e != api.OK || f != api.OK || g != api.OK || !equalRanked(ranking, []api.Ranked{best}) || costs[0].Cost != best.Cost {
			t.Fatal(p, best, e, f, g, ranking, costs)
		}
		if !slices.Equal(first, all[0]) || !slices.Equal(first, extended) {
			t.Fatal(p, first, extended, all[0])
		}
		if _, e := search.Prove(p, best.Cost); e != api.OK {
			t.Fatal(p, best, e)
		}
		if _, e := search.Prove(p, best.Cost+1); e != api.ErrFalse {
			t.Fatal(p, best, e)
		}
	}
}

// P6.8: if a rule is left out, no fewer plans are right; that holds of classes only as long as the same seats are pinned.
func TestRuleLeftOut(t *testing.T) {
	r := rand.New(rand.NewSource(11))
	more := 0
	for range 200 {
		p := anyProblem(r, 210, 1+r.Intn(5))
		plans, _, e := search.Count(p)
		for i := range p.Rules {
			q := p
			q.Rules = slices.Delete(slices.Clone(p.Rules), i, i+1)
			n, _, f := search.Count(q)
			if n < plans || e != api.OK || f != api.OK {
				t.Fatalf("%v: %d plans, without rule %d %d", p, plans, i, n)
			}
			if n > plans {
				more++
			}
		}
	}
	if more < 60 {
		t.Errorf("only %d times there are more plans", more)
	}
}

// P6.3: places and forced seats agree with each other, and with plans that extend a guest's seat.
func TestPlacesAgree(t *testing.T) {
	r := rand.New(rand.NewSource(12))
	for range 150 {
		p := anyProblem(r, 210, r.Intn(8))
		forced, e := search.Forced(p)
		for g := range p.Guests {
			seats, _ := search.Places(p, g)
			if e == api.OK && (len(seats) == 1) != (forced[g] >= 0) || e == api.OK && len(seats) == 1 && seats[0] != forced[g] {
				t.Fatal(p, g, seats, forced)
			}
			for seat := range hall.Count(p.Tables) {
				part := slices.Repeat([]int{-1}, len(p.Guests))
				part[g] = seat
				if _, e := search.Extend(p, part); (e == api.OK) != slices.Contains(seats, seat) {
					t.Fatal(p, g, seat, seats, e)
				}
			}
		}
	}
}

// P1: every function answers, whatever its arguments are, and changes none of them (R4); with an error it answers nothing else.
func TestAnyArgument(t *testing.T) {
	r := rand.New(rand.NewSource(13))
	number := func() int { return pick(r, strange()...) }
	name := func() string { return pick(r, "", "-", "a", "aa", "top", "sun", "A", "\xff", "a b", "a\n") }
	for range 1500 {
		p := anyProblem(r, 130, r.Intn(6))
		switch r.Intn(8) {
		case 0:
			p.Class = []int{number(), number()}
		case 1:
			p.Tables = append(p.Tables, api.Table{Name: name(), Shape: api.Shape(r.Intn(6)), A: number(), B: number(), Open: []int{number()}, X: number()})
		case 2:
			p.Guests = append(p.Guests, api.Guest{Name: name(), Side: number(), Since: number(), Tongues: []string{name()}})
		case 3:
			p.Rules = append(p.Rules, api.Rule{Kind: api.RuleKind(r.Intn(20)), Weight: number(), A: name(), B: name(), Table: name(), N: number()})
		case 4:
			p.Ties = append(p.Ties, api.Tie{A: name(), B: name(), Kind: api.TieKind(r.Intn(4))})
		}
		var part []int
		var steps []api.Step
		for range r.Intn(7) {
			part, steps = append(part, pick(r, -1, -1, number())), append(steps, anyStep(r))
		}
		first, second, before := copied(p), slices.Clone(part), slices.Clone(steps)
		askAll(t, p, number, part, steps)
		if !reflect.DeepEqual(p, first) || !slices.Equal(part, second) || !slices.Equal(steps, before) {
			t.Fatal("an argument is changed")
		}
	}
}

// copied returns a problem that shares no memory with another one.
func copied(p api.Problem) api.Problem {
	q := api.Problem{Ties: slices.Clone(p.Ties), Class: slices.Clone(p.Class), Rules: slices.Clone(p.Rules), Tables: slices.Clone(p.Tables), Guests: slices.Clone(p.Guests)}
	for i := range q.Tables {
		q.Tables[i].Open = slices.Clone(q.Tables[i].Open)
	}
	for i := range q.Guests {
		q.Guests[i].Tongues = slices.Clone(q.Guests[i].Tongues)
	}
	return q
}

// askAll calls all functions, and fails a test if one answers something beside an error.
func askAll(t *testing.T, p api.Problem, number func() int, part []int, steps []api.Step) {
	t.Helper()
	_, invalid := rule.Check(p)
	silent := func(what string, e api.Errno, answers ...any) {
		t.Helper()
		if invalid != api.OK && e != invalid {
			t.Fatalf("%s of %v: %d, not %d", what, p, e, invalid)
		}
		for _, x := range answers {
			if v := reflect.ValueOf(x); e != api.OK && !v.IsZero() && (v.Kind() != reflect.Slice || v.Len() > 0) {
				t.Fatalf("%s with error %d: %v", what, e, x)
			}
		}
	}
	is, e := search.Exists(p)
	silent("Exists", e, is)
	plans, classes, e := search.Count(p)
	silent("Count", e, plans, classes)
	first, e := search.First(p)
	silent("First", e, first)
	all, e := search.All(p, number())
	silent("All", e, all)
	best, e := search.Best(p)
	silent("Best", e, best)
	ranking, e := search.Ranking(p, number())
	silent("Ranking", e, ranking)
	costs, e := search.Costs(p)
	silent("Costs", e, costs)
	extended, e := search.Extend(p, part)
	silent("Extend", e, extended)
	seats, e := search.Places(p, number())
	silent("Places", e, seats)
	forced, e := search.Forced(p)
	silent("Forced", e, forced)
	tree, e := search.Tree(p)
	silent("Tree", e, tree)
	proof, e := search.Prove(p, number())
	silent("Prove", e, proof)
	_, e = search.Verify(p, number(), steps)
	silent("Verify", e)
	best, proof, e = search.Certify(p)
	silent("Certify", e, best, proof)
	text := search.FormatProof(p, steps)
	read, _, e := search.ParseProof(p, text)
	silent("ParseProof", e, read)
	read, _, e = search.ParseProof(p, text+"case")
	silent("ParseProof", e, read)
}

// R4: lists of a result share no memory: what is done to one of them changes no other, and not the next answer.
func TestNewMemory(t *testing.T) {
	for range 2 {
		all, _ := search.All(ring(across), 3)
		list, _ := search.Ranking(ring(across), 3)
		if len(all) != 3 || len(list) != 3 {
			t.Fatal(all, list)
		}
		for i := range all {
			want := [][]int{{0, 1, 2}, {0, 1, 3}, {0, 2, 1}}[i]
			if !slices.Equal(all[i], want) || !slices.Equal(list[(i+1)%3].Plan, want) {
				t.Errorf("plan %d: %v, %v", i, all[i], list[(i+1)%3])
			}
			_, _ = append(all[i], -7), append(list[(i+1)%3].Plan, -7)
			for g := range want {
				all[i][g], list[(i+1)%3].Plan[g] = -7, -7
			}
		}
		best, steps, _ := search.Certify(ring(across))
		if !slices.Equal(best.Plan, []int{0, 2, 1}) || len(steps) == 0 {
			t.Error(best, steps)
		}
		clear(best.Plan)
		clear(steps)
	}
}
