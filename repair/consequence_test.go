package repair_test

import (
	"math/rand"
	"slices"
	"testing"

	"trestle/api"
	"trestle/plan"
	"trestle/repair"
	"trestle/rule"
	"trestle/search"
)

// P6, P10.8: a repair meets all hard rules, and no plan that meets them moves fewer guests; that is proved, and the proof is
// accepted. Every repair moves at least AtLeast guests. In Keep's problem a plan costs the number of guests that it moves.
func TestFewest(t *testing.T) {
	r := rand.New(rand.NewSource(31))
	proved, bounds := map[int]int{}, map[int]int{}
	for range 1500 {
		p := anyProblem(r, 300, r.Intn(8))
		if r.Intn(2) == 0 {
			p = solvable(r, p)
		}
		part := anyPart(r, p)
		j, _, _ := rule.New(p)
		kept, e := repair.Keep(p, part)
		k, _, f := rule.New(kept)
		if e != api.OK || f != api.OK {
			t.Fatalf("%v, %v: %v, %d, %d", p, part, kept, e, f)
		}
		got, e := repair.Fix(p, part, len(part))
		if e == api.OK && !j.Right(got.Plan) {
			t.Fatalf("%v, %v: %v is not right", p, part, got)
		}
		if e == api.ErrLarge {
			continue
		}
		least := repair.AtLeast(p, part)
		for x, ok := must(plan.Unrank(p, 0)), true; ok; x, ok = plan.Next(p, x) {
			n := moved(part, x)
			if k.Right(x) != j.Right(x) || k.Cost(x) != n {
				t.Fatalf("%v, %v: in %v %v costs %d", p, part, kept, x, k.Cost(x))
			}
			if j.Right(x) && (e != api.OK || n < got.Moved || n < least) {
				t.Fatalf("%v, %v: %v moves %d, not %d (%d), at least %d", p, part, x, n, got.Moved, e, least)
			}
		}
		bound := got.Moved
		if e == api.ErrNone {
			// There is no repair at all: that is what a bound below 0 says.
			bound = -1
		}
		steps, f := repair.Prove(p, part, bound)
		if at, g := search.Verify(kept, bound, steps); f != api.OK || at != 0 || g != api.OK {
			t.Fatalf("%v, %v, %d: %v, %d: %d, %d", p, part, bound, steps, f, at, g)
		}
		if _, f := repair.Prove(p, part, bound+1); e == api.OK && f != api.ErrFalse {
			t.Fatalf("%v, %v, %d: %d", p, part, bound+1, f)
		}
		proved[bound]++
		bounds[least]++
	}
	if proved[-1] < 50 || proved[0] < 300 || proved[1] < 100 || proved[2] < 30 || bounds[1] < 100 || bounds[2] < 5 {
		t.Error(proved, bounds)
	}
}

// P10.8: if the partial plan is a right plan nobody is moved, whatever it costs.
func TestRightStays(t *testing.T) {
	r := rand.New(rand.NewSource(32))
	stayed := 0
	for range 1500 {
		p := solvable(r, anyProblem(r, 300, 0))
		j, _, _ := rule.New(p)
		x := r.Perm(len(j.Problem().Guests))
		if !j.Right(x) {
			continue
		}
		got, e := repair.Fix(p, x, pick(r, 0, 1, -1))
		if e != api.OK || !slices.Equal(got.Plan, x) || got.Moved != 0 || got.Cost != j.Cost(x) {
			t.Fatalf("%v, %v: %v, %d", p, x, got, e)
		}
		stayed++
	}
	if stayed < 300 {
		t.Error(stayed)
	}
}

// P10.8: who comes late and cancels leaves everything as it was.
func TestLateAndCancel(t *testing.T) {
	r := rand.New(rand.NewSource(33))
	came := 0
	for range 2000 {
		p := anyProblem(r, 5000, r.Intn(12))
		part := anyPart(r, p)
		c := api.Change{Kind: api.Late, Guest: anyGuest(r, pick(r, append(names(6), "vegan", "zoe")...))}
		if len(p.Class) > 0 {
			c.N = r.Intn(64)
		}
		q, x, e := repair.Apply(p, part, c)
		if e != api.OK {
			continue
		}
		back, y, e := repair.Apply(q, x, api.Change{Kind: api.Cancel, A: c.Guest.Name})
		if e != api.OK || show(back, y) != show(p, part) {
			t.Fatalf("%v, %v, %v: %v, %v, %d", p, part, c, back, y, e)
		}
		came++
	}
	if came < 500 {
		t.Error(came)
	}
}

// P1: every function answers, whatever its arguments are, and changes none of them (R4); with an error it answers nothing else.
func TestAnyArgument(t *testing.T) {
	r := rand.New(rand.NewSource(34))
	number := func() int { return pick(r, strange()...) }
	name := func() string { return pick(r, "", "-", "a", "aa", "top", "sun", "A", "\xff", "a b", "a\n") }
	for range 3000 {
		p := anyProblem(r, 300, r.Intn(9))
		part := anyPart(r, p)
		switch r.Intn(10) {
		case 0:
			p.Class = []int{number(), number()}
		case 1:
			p.Tables = append(p.Tables, api.Table{Name: name(), Shape: api.Shape(r.Intn(6)), A: number(), B: number(), Open: []int{number()}, X: number()})
		case 2:
			p.Guests = append(p.Guests, api.Guest{Name: name(), Side: number(), Since: number(), Tongues: []string{name()}})
		case 3:
			p.Rules = append(p.Rules, api.Rule{Kind: api.RuleKind(r.Intn(20)), Weight: number(), A: name(), B: name(), Table: name(), N: number()})
		case 4:
			p.Ties = append(p.Ties, api.Tie{A: name(), B: name(), Kind: api.TieKind(r.Intn(4))})
		case 5:
			part = append(part, number())
		case 6:
			if len(part) > 0 {
				part[r.Intn(len(part))] = number()
			}
		}
		var l []api.Change
		for range r.Intn(4) {
			c := anyChange(r, p)
			if r.Intn(3) == 0 {
				c = api.Change{Kind: api.ChangeKind(r.Intn(8)), Guest: api.Guest{Name: name(), Diet: name(), Since: number(), Side: number(), Tongues: []string{name(), name()}}, A: name(), B: name(), Table: name(), N: number(), Rule: api.Rule{Kind: api.RuleKind(r.Intn(20)), Weight: number(), A: name(), B: name(), Table: name(), N: number()}}
			}
			l = append(l, c)
		}
		before := show(p, part, l)
		askAll(t, p, part, l, number)
		if show(p, part, l) != before {
			t.Fatal("an argument is changed")
		}
	}
}

// askAll calls all functions, and fails a test if one answers something beside an error.
func askAll(t *testing.T, p api.Problem, part []int, l []api.Change, number func() int) {
	t.Helper()
	_, invalid := plan.CheckPart(p, part)
	silent := func(what string, e api.Errno, answers ...any) {
		t.Helper()
		if invalid != api.OK && e != invalid || e != api.OK && !nothing(answers...) {
			t.Fatalf("%s of %v, %v: %d, not %d; %v", what, p, part, e, invalid, answers)
		}
	}
	for _, c := range l {
		silent("Check", repair.Check(p, part, c))
		q, x, e := repair.Apply(p, part, c)
		silent("Apply", e, q, x)
	}
	upset, least, tries := repair.Upset(p, part), repair.AtLeast(p, part), repair.Tries(p, part, number())
	if invalid != api.OK && len(upset)+least+tries != 0 {
		t.Fatalf("%v, %v: %v, %d, %d", p, part, upset, least, tries)
	}
	fixed, e := repair.Fix(p, part, number())
	silent("Fix", e, fixed)
	fixed, e = repair.Oust(p, part, number(), number())
	silent("Oust", e, fixed)
	kept, e := repair.Keep(p, part)
	silent("Keep", e, kept)
	steps, e := repair.Prove(p, part, number())
	silent("Prove", e, steps)
	list, at, e := repair.Replay(p, part, l, number())
	if invalid != api.OK {
		silent("Replay", e, list, at)
	} else if e == api.OK && (at != 0 || len(list) != len(l)) || e != api.OK && len(list) != at {
		t.Fatalf("Replay of %v, %v, %v: %v, %d, %d", p, part, l, list, at, e)
	}
	text := repair.Format(l)
	if read, line, e := repair.Parse(text); e != api.OK || line != 0 || len(read) != 0 && len(read) != len(l) {
		t.Fatalf("%q: %v, %d, %d", text, read, line, e)
	}
	if read, line, e := repair.Parse(text + "late 0 guest"); len(read) != 0 || e != api.ErrForm || line != len(l) && text != "" {
		t.Fatalf("%q: %v, %d, %d", text, read, line, e)
	}
}
