package rule_test

import (
	"math"
	"slices"
	"testing"

	"trestle/api"
	"trestle/rule"
)

// P4.1: problems that are valid, up to the limits.
func TestValidProblems(t *testing.T) {
	one := []api.Table{{Name: "r", Shape: api.Round, A: 4}}
	for _, p := range []api.Problem{
		{}, {Tables: one}, {Tables: one, Guests: crowd(4)}, {Tables: one, Class: []int{}}, {Tables: one, Guests: crowd(2), Class: []int{0, 63}},
		{Rules: []api.Rule{{Kind: api.Mix}, {Kind: api.Fill, N: 24}, {Kind: api.Reach, Weight: 1000}}},
		{Tables: one, Guests: crowd(4), Rules: slices.Repeat([]api.Rule{{Kind: api.Honour, Table: "r"}}, api.MaxRules)},
		great(), dinner(),
	} {
		if i, e := rule.Check(p); i != 0 || e != api.OK {
			t.Errorf("Check(%v): %d, %d", p, i, e)
		}
		if j, i, e := rule.New(p); j == nil || i != 0 || e != api.OK {
			t.Errorf("New(%v): %d, %d", p, i, e)
		}
	}
}

// great returns a problem as large as the limits allow, but for its rules.
func great() api.Problem {
	p := api.Problem{Guests: crowd(api.MaxGuests)}
	for _, name := range names(api.MaxTables) {
		p.Tables = append(p.Tables, api.Table{Name: name, Shape: api.Round, A: api.MaxTable})
	}
	for x := range p.Guests {
		p.Class = append(p.Class, x)
	}
	return p
}

// P4.1: problems that are not valid; of several errors the first one is returned.
func TestWrongProblems(t *testing.T) {
	seats := []api.Table{{Name: "r", Shape: api.Round, A: 3}, {Name: "w", Shape: api.Row, A: 1}}
	bad := api.Rule{Kind: api.Mix, N: 1}
	good := api.Rule{Kind: api.Mix}
	for _, x := range []struct {
		p api.Problem
		i int
		e api.Errno
	}{
		{api.Problem{Tables: []api.Table{seats[0], seats[1], seats[0]}, Guests: []api.Guest{{}}, Rules: []api.Rule{bad}}, 2, api.ErrTwice},
		{api.Problem{Tables: []api.Table{seats[0], {Name: "R"}}, Class: []int{-1}}, 1, api.ErrName},
		{api.Problem{Tables: slices.Repeat(seats[:1], 17)}, 0, api.ErrMany},
		{api.Problem{Tables: seats, Guests: []api.Guest{{Name: "a"}, {Name: "b", Side: 3}}, Class: []int{0}}, 1, api.ErrSide},
		{api.Problem{Guests: []api.Guest{{Name: "a"}, {Name: "a"}}, Class: []int{0}}, 1, api.ErrTwice},
		{api.Problem{Tables: seats, Guests: crowd(2), Ties: []api.Tie{{A: "a", B: "aa", Kind: 1}, {A: "aa", B: "zoe", Kind: 1}}, Class: []int{0}}, 3, api.ErrUnknown},
		{api.Problem{Guests: crowd(65), Class: []int{0}}, 64, api.ErrMany},
		{api.Problem{Tables: seats, Guests: crowd(2), Class: []int{0}, Rules: []api.Rule{bad}}, 0, api.ErrClass},
		{api.Problem{Tables: seats, Guests: crowd(2), Class: []int{0, 1, 2}}, 0, api.ErrClass},
		{api.Problem{Tables: seats, Class: []int{0}}, 0, api.ErrClass},
		{api.Problem{Tables: seats, Guests: crowd(2), Class: []int{0, -1}}, 0, api.ErrClass},
		{api.Problem{Tables: seats, Guests: crowd(2), Class: []int{64, 0}}, 0, api.ErrClass},
		{api.Problem{Tables: seats, Guests: crowd(2), Class: []int{math.MinInt, math.MaxInt}}, 0, api.ErrClass},
		{api.Problem{Tables: seats, Guests: crowd(5), Class: []int{1}}, 0, api.ErrClass},
		{api.Problem{Tables: seats, Guests: crowd(5), Rules: []api.Rule{bad}}, 0, api.ErrRoom},
		{api.Problem{Guests: crowd(1)}, 0, api.ErrRoom},
		{api.Problem{Tables: seats, Rules: []api.Rule{bad, {}}}, 0, api.ErrField},
		{api.Problem{Tables: seats, Rules: []api.Rule{good, good, {}, bad}}, 2, api.ErrKind},
		{api.Problem{Rules: slices.Repeat([]api.Rule{good}, 65)}, 64, api.ErrMany},
		{api.Problem{Rules: append(slices.Repeat([]api.Rule{good}, 64), bad, bad)}, 64, api.ErrField},
		{api.Problem{Rules: append(slices.Repeat([]api.Rule{good}, 65), bad)}, 64, api.ErrMany},
		{api.Problem{Rules: append(slices.Repeat([]api.Rule{good}, 63), bad, good)}, 63, api.ErrField},
	} {
		if i, e := rule.Check(x.p); i != x.i || e != x.e {
			t.Errorf("Check(%v): %d, %d instead of %d, %d", x.p, i, e, x.i, x.e)
		}
		if j, i, e := rule.New(x.p); j != nil || i != x.i || e != x.e {
			t.Errorf("New(%v): %v, %d, %d instead of %d, %d", x.p, j, i, e, x.i, x.e)
		}
	}
}

// fields are the fields that the kinds use: guests a and b, a diet d, a table t that has to be named, or o that may be empty,
// a number n from 0 to 24, m from 1 to 24, or s of a seat; r is a guest, or none.
var fields = map[api.RuleKind]string{
	api.Apart: "abn", api.Beside: "ab", api.Across: "ab", api.Near: "abm", api.Together: "ab", api.At: "at", api.Seat: "ats",
	api.Alternate: "o", api.HostAt: "o", api.Reach: "r", api.Speak: "o", api.Peace: "o", api.Company: "o", api.Honour: "o",
	api.Fill: "on", api.Limit: "on", api.Kitchen: "dt", api.Mix: "o",
}

// uses reports whether a kind uses a field for one of some things.
func uses(k api.RuleKind, things string) bool {
	return slices.ContainsFunc([]byte(fields[k]), func(c byte) bool { return slices.Contains([]byte(things), c) })
}

// plain returns a valid rule of a kind, in the problem of the examples, with as much as may be empty.
func plain(k api.RuleKind) api.Rule {
	r := api.Rule{Kind: k}
	if uses(k, "a") {
		r.A = "anna"
	}
	if uses(k, "d") {
		r.A = "halal"
	}
	if uses(k, "b") {
		r.B = "boris"
	}
	if uses(k, "t") {
		r.Table = "w"
	}
	if uses(k, "m") {
		r.N = 1
	}
	return r
}

// P4.2: which names each kind of rules needs, which it may have, and which it may not have.
func TestRuleNames(t *testing.T) {
	for k := api.Apart; k <= api.Mix; k++ {
		check := func(r api.Rule, want api.Errno) {
			t.Helper()
			if e := rule.CheckRule(dinner(), r); e != want {
				t.Errorf("CheckRule(%v): %d instead of %d", r, e, want)
			}
			if i, e := rule.Check(dinner(plain(k), r)); e != want || e != api.OK && i != 1 {
				t.Errorf("Check of %v: %d, %d instead of %d", r, i, e, want)
			}
		}
		check(plain(k), api.OK)
		for _, name := range append(wrongNames, "", "anna", "boris", "dora", "w", "zoe", "halal", "-") {
			isGuest := slices.Contains([]string{"anna", "boris", "dora"}, name)
			r, want := plain(k), api.OK
			r.A = name
			switch {
			case !uses(k, "adr") && name != "":
				want = api.ErrField
			case uses(k, "a") && !isGuest || uses(k, "r") && !isGuest && name != "":
				want = api.ErrUnknown
			case uses(k, "d") && (name == "" || name == "-" || slices.Contains(wrongNames, name)):
				want = api.ErrName
			case uses(k, "b") && name == r.B:
				want = api.ErrTwice
			}
			check(r, want)
			r, want = plain(k), api.OK
			r.B = name
			switch {
			case !uses(k, "b") && name != "":
				want = api.ErrField
			case uses(k, "b") && !isGuest:
				want = api.ErrUnknown
			case uses(k, "b") && name == r.A:
				want = api.ErrTwice
			}
			check(r, want)
			r, want = plain(k), api.OK
			r.Table = name
			switch {
			case !uses(k, "to") && name != "":
				want = api.ErrField
			case uses(k, "t") && name != "w" || uses(k, "o") && name != "w" && name != "":
				want = api.ErrUnknown
			}
			check(r, want)
		}
	}
}

// P4.2: which numbers and weights the kinds of rules may have.
func TestRuleNumbers(t *testing.T) {
	for k := api.Apart; k <= api.Mix; k++ {
		for _, table := range []string{"r", "w"} {
			for _, n := range []int{math.MinInt, -1, 0, 1, 2, 5, 6, 23, 24, 25, math.MaxInt} {
				r, want := plain(k), api.OK
				if uses(k, "to") {
					r.Table = table
				}
				r.N = n
				most := map[string]int{"r": 5, "w": 1}[table]
				switch {
				case !uses(k, "nms") && n != 0:
					want = api.ErrField
				case uses(k, "n") && (n < 0 || n > 24), uses(k, "m") && (n < 1 || n > 24), uses(k, "s") && (n < 0 || n > most):
					want = api.ErrCount
				}
				if e := rule.CheckRule(dinner(), r); e != want {
					t.Errorf("CheckRule(%v): %d instead of %d", r, e, want)
				}
			}
		}
		for _, w := range []int{math.MinInt, -1, 0, 1, 1000, 1001, math.MaxInt} {
			r, want := plain(k), api.OK
			r.Weight = w
			if w < 0 || w > 1000 {
				want = api.ErrWeight
			}
			if e := rule.CheckRule(dinner(), r); e != want {
				t.Errorf("CheckRule(%v): %d instead of %d", r, e, want)
			}
		}
	}
	for _, k := range []api.RuleKind{0, 19, 20, 100, 255} {
		if e := rule.CheckRule(dinner(), api.Rule{Kind: k}); e != api.ErrKind {
			t.Errorf("kind %d: %d", k, e)
		}
	}
}

// P4.2: of several errors of a rule the first one is returned.
func TestRuleErrorOrder(t *testing.T) {
	wrong := dinner()
	wrong.Class = []int{0}
	crammed := dinner()
	crammed.Tables = crammed.Tables[1:]
	for _, x := range []struct {
		p api.Problem
		r api.Rule
		e api.Errno
	}{
		{wrong, api.Rule{}, api.ErrArg},
		{wrong, api.Rule{Kind: api.Mix}, api.ErrArg},
		{crammed, api.Rule{Kind: api.Mix}, api.ErrArg},
		{api.Problem{Tables: []api.Table{{}}}, api.Rule{Kind: api.Mix}, api.ErrArg},
		{api.Problem{Guests: []api.Guest{{}}}, api.Rule{Kind: api.Mix}, api.ErrArg},
		{dinner(api.Rule{}, api.Rule{Kind: api.Mix, N: 1}), api.Rule{Kind: api.Mix}, api.OK},
		{dinner(slices.Repeat([]api.Rule{{}}, 100)...), api.Rule{Kind: api.Mix}, api.OK},
		{dinner(), api.Rule{Weight: -1, A: "zoe", N: 99}, api.ErrKind},
		{dinner(), api.Rule{Kind: api.Beside, Weight: -1, A: "zoe", N: 99}, api.ErrWeight},
		{dinner(), api.Rule{Kind: api.Beside, A: "zoe", B: "zoe", N: 1}, api.ErrField},
		{dinner(), api.Rule{Kind: api.Beside, A: "zoe", B: "zoe", Table: "r"}, api.ErrField},
		{dinner(), api.Rule{Kind: api.Near, A: "zoe", B: "zoe", N: 25}, api.ErrUnknown},
		{dinner(), api.Rule{Kind: api.Near, A: "anna", B: "zoe", N: 25}, api.ErrUnknown},
		{dinner(), api.Rule{Kind: api.Near, B: "anna", N: 25}, api.ErrUnknown},
		{dinner(), api.Rule{Kind: api.Near, A: "anna", B: "anna", N: 25}, api.ErrTwice},
		{dinner(), api.Rule{Kind: api.Near, A: "anna", B: "dora", N: 25}, api.ErrCount},
		{dinner(), api.Rule{Kind: api.Seat, A: "zoe", Table: "zoe", N: 6}, api.ErrUnknown},
		{dinner(), api.Rule{Kind: api.Seat, A: "anna", Table: "zoe", N: 6}, api.ErrUnknown},
		{dinner(), api.Rule{Kind: api.Seat, A: "anna", N: 6}, api.ErrUnknown},
		{dinner(), api.Rule{Kind: api.Seat, A: "anna", Table: "r", N: 6}, api.ErrCount},
		{dinner(), api.Rule{Kind: api.Kitchen, A: "D", B: "anna", Table: "zoe"}, api.ErrField},
		{dinner(), api.Rule{Kind: api.Kitchen, A: "D", Table: "zoe"}, api.ErrName},
		{dinner(), api.Rule{Kind: api.Kitchen, A: "d", Table: "zoe"}, api.ErrUnknown},
		{dinner(), api.Rule{Kind: api.Fill, Table: "zoe", N: 25}, api.ErrUnknown},
		{dinner(), api.Rule{Kind: api.Fill, Table: "w", N: 25}, api.ErrCount},
	} {
		if e := rule.CheckRule(x.p, x.r); e != x.e {
			t.Errorf("CheckRule(%v): %d instead of %d", x.r, e, x.e)
		}
	}
}
