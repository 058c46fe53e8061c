package repair_test

import (
	"math"
	"math/rand"
	"slices"
	"testing"

	"trestle/api"
	"trestle/plan"
	"trestle/repair"
	"trestle/rule"
)

// late returns the change that a guest of that name comes late, with a class.
func late(name string, class int) api.Change {
	return api.Change{Kind: api.Late, Guest: api.Guest{Name: name}, N: class}
}

// crowded returns a problem with some guests, seats, ties and rules.
func crowded(guests, seats, ties, rules int) api.Problem {
	p := feast(guests, seats)
	p.Ties = web(p, ties)
	p.Rules = slices.Repeat([]api.Rule{{Kind: api.Mix}}, rules)
	return p
}

// asks calls Check and Apply, and fails a test unless both answer an error.
func asks(t *testing.T, what string, p api.Problem, part []int, c api.Change, e api.Errno) {
	t.Helper()
	q, x, f := repair.Apply(p, part, c)
	if g := repair.Check(p, part, c); f != e || g != e || e != api.OK && !nothing(q, x) {
		t.Errorf("%s: %+v: Check %d, Apply %d with %v, %v; not %d", what, c, g, f, q, x, e)
	}
}

// P10.1: what is asked of a guest who comes late, in this order.
func TestLate(t *testing.T) {
	p := three(t, "")
	ranked := three(t, "")
	ranked.Class = []int{0, 63, 1}
	part := []int{0, -1, 2}
	for _, x := range []struct {
		g api.Guest
		e api.Errno
	}{
		{api.Guest{Name: "dora"}, api.OK}, {api.Guest{Name: "dora", Rank: "duke", Court: "spain", Since: 9999, Side: 2, Diet: "fish", Host: true, Access: true, Tongues: []string{"a", "b", "c", "d"}}, api.OK},
		{api.Guest{}, api.ErrName}, {api.Guest{Name: "Dora"}, api.ErrName}, {api.Guest{Name: "dora", Rank: "-"}, api.ErrName}, {api.Guest{Name: "dora", Since: 10000, Side: 3}, api.ErrSince},
		{api.Guest{Name: "anna", Side: 3}, api.ErrSide}, {api.Guest{Name: "carl", Tongues: []string{"b", "a"}}, api.ErrTongue}, {api.Guest{Name: "anna"}, api.ErrTwice}, {api.Guest{Name: "carl"}, api.ErrTwice},
	} {
		asks(t, "no classes", p, part, api.Change{Kind: api.Late, Guest: x.g}, x.e)
		asks(t, "classes", ranked, part, api.Change{Kind: api.Late, Guest: x.g}, x.e)
		if x.e != api.OK {
			asks(t, "a wrong class, too", p, part, api.Change{Kind: api.Late, Guest: x.g, N: 64}, x.e)
		}
	}
	for _, n := range []int{math.MinInt, -1, 0, 1, 62, 63, 64, math.MaxInt} {
		with, without := api.ErrClass, api.ErrClass
		if n >= 0 && n < 64 {
			with = api.OK
		}
		if n == 0 {
			without = api.OK
		}
		asks(t, "classes", ranked, part, late("dora", n), with)
		asks(t, "no classes", p, part, late("dora", n), without)
	}
	full, small := feast(64, 64), feast(3, 3)
	full.Class, small.Class = make([]int, 64), make([]int, 3)
	asks(t, "64 guests on 64 seats", full, first(full, 1), late(full.Guests[9].Name, -1), api.ErrTwice)
	asks(t, "64 guests on 64 seats", full, first(full, 1), late("zoe", -1), api.ErrMany)
	asks(t, "64 guests", feast(64, 65), first(full, 1), late("zoe", 0), api.ErrMany)
	asks(t, "63 guests", feast(63, 64), first(feast(63, 64), 63), late("zoe", 0), api.OK)
	asks(t, "3 guests on 3 seats", small, first(small, 1), late("zoe", 64), api.ErrRoom)
	asks(t, "3 guests on 3 seats", feast(3, 3), first(small, 1), late("zoe", 0), api.ErrRoom)
	asks(t, "nobody", feast(0, 1), nil, late("zoe", 0), api.OK)
	asks(t, "nobody", feast(0, 1), []int{}, late("zoe", 1), api.ErrClass)
	asks(t, "no hall", api.Problem{}, nil, late("zoe", 1), api.ErrRoom)
}

// P10.1: what is asked of the other changes, in this order.
func TestOthers(t *testing.T) {
	p, part := wider(t, "weigh 1 kitchen vegan w\n"), []int{-1, 4, -1}
	for _, name := range []string{"", "dora", "Anna", "ann", "r", "vegan", "-"} {
		asks(t, "unknown", p, part, api.Change{Kind: api.Cancel, A: name, B: "anna"}, api.ErrUnknown)
		asks(t, "unknown", p, part, api.Change{Kind: api.Quarrel, A: name, B: "anna"}, api.ErrUnknown)
		asks(t, "unknown", p, part, api.Change{Kind: api.Quarrel, A: "anna", B: name}, api.ErrUnknown)
		asks(t, "unknown", p, part, api.Change{Kind: api.Quarrel, A: name, B: name}, api.ErrUnknown)
		if name != "r" {
			asks(t, "unknown", p, part, api.Change{Kind: api.Close, Table: name, N: -1}, api.ErrUnknown)
		}
	}
	asks(t, "equal", p, part, api.Change{Kind: api.Quarrel, A: "boris", B: "boris"}, api.ErrTwice)
	for _, n := range []int{math.MinInt, -1, 25, math.MaxInt} {
		asks(t, "count", p, part, api.Change{Kind: api.Close, Table: "w", N: n}, api.ErrCount)
	}
	for _, n := range []int{0, 1, 2, 24} {
		asks(t, "count", p, part, api.Change{Kind: api.Close, Table: "w", N: n}, api.OK)
	}
	for _, x := range []struct {
		r api.Rule
		e api.Errno
	}{
		{api.Rule{}, api.ErrKind}, {api.Rule{Kind: 19}, api.ErrKind}, {api.Rule{Kind: api.Mix, Weight: 1001}, api.ErrWeight}, {api.Rule{Kind: api.Mix, Weight: -1}, api.ErrWeight}, {api.Rule{Kind: api.Mix, N: 1}, api.ErrField},
		{api.Rule{Kind: api.At, A: "dora", Table: "q"}, api.ErrUnknown}, {api.Rule{Kind: api.Kitchen, Table: "q"}, api.ErrName}, {api.Rule{Kind: api.Beside, A: "anna", B: "anna"}, api.ErrTwice}, {api.Rule{Kind: api.Limit, Table: "q"}, api.ErrUnknown},
		{api.Rule{Kind: api.Seat, A: "anna", Table: "w", N: 1}, api.ErrCount}, {api.Rule{Kind: api.Seat, A: "anna", Table: "w"}, api.OK}, {api.Rule{Kind: api.Mix, Weight: 1000}, api.OK}, {api.Rule{Kind: api.Reach}, api.OK},
	} {
		asks(t, "rule", p, part, api.Change{Kind: api.Demand, Rule: x.r}, x.e)
	}
}

// P10.1: there may be 64 rules and 256 ties, but no more.
func TestNoRoomForMore(t *testing.T) {
	for _, rules := range []int{63, 64} {
		p := crowded(30, 40, 256, rules)
		part, many, tie := first(p, 7), api.OK, p.Ties[77]
		if rules == 64 {
			many = api.ErrMany
		}
		a, b := p.Guests[28].Name, p.Guests[29].Name
		if slices.ContainsFunc(p.Ties, func(s api.Tie) bool { return s.A == a && s.B == b }) {
			t.Fatal("the last two have a tie")
		}
		asks(t, "a tie more", p, part, api.Change{Kind: api.Quarrel, A: a, B: b}, api.ErrMany)
		asks(t, "a tie more", p, part, api.Change{Kind: api.Quarrel, A: b, B: a}, api.ErrMany)
		asks(t, "the same tie", p, part, api.Change{Kind: api.Quarrel, A: tie.A, B: tie.B}, many)
		asks(t, "the same tie", p, part, api.Change{Kind: api.Quarrel, A: tie.B, B: tie.A}, many)
		asks(t, "equal", p, part, api.Change{Kind: api.Quarrel, A: a, B: a}, api.ErrTwice)
		asks(t, "unknown", p, part, api.Change{Kind: api.Quarrel, A: a, B: "zoe"}, api.ErrUnknown)
		asks(t, "close", p, part, api.Change{Kind: api.Close, Table: "ta", N: 24}, many)
		asks(t, "close", p, part, api.Change{Kind: api.Close, Table: "ta", N: 25}, api.ErrCount)
		asks(t, "close", p, part, api.Change{Kind: api.Close, N: 25}, api.ErrUnknown)
		asks(t, "demand", p, part, api.Change{Kind: api.Demand, Rule: api.Rule{Kind: api.Mix}}, many)
		asks(t, "demand", p, part, api.Change{Kind: api.Demand, Rule: api.Rule{Kind: api.Mix, Table: "t"}}, api.ErrUnknown)
		asks(t, "late", p, part, late("zoe", 0), api.OK)
		asks(t, "cancel", p, part, api.Change{Kind: api.Cancel, A: a}, api.OK)
		p.Ties = p.Ties[:255]
		asks(t, "a tie more", p, part, api.Change{Kind: api.Quarrel, A: a, B: b}, many)
	}
}

// P10.1: the errors of the problem and of the partial plan come first, then that there is no such kind. Fields that a kind does
// not use do not matter.
func TestKinds(t *testing.T) {
	p, part := wider(t, ""), []int{4, -1, 0}
	for _, x := range fails() {
		for k := range 7 {
			asks(t, "invalid", x.p, x.part, api.Change{Kind: api.ChangeKind(k), A: "zoe", Table: "q", N: 99}, x.e)
		}
	}
	for k := range 256 {
		if k == 0 || k > 5 {
			asks(t, "kind", p, part, api.Change{Kind: api.ChangeKind(k), Guest: api.Guest{Name: "dora"}, A: "anna", B: "boris", Table: "r", Rule: api.Rule{Kind: api.Mix}}, api.ErrChange)
		}
	}
	full := api.Change{Guest: api.Guest{Name: "Z", Side: 7}, A: "Z", B: "anna", Table: "Z", N: -7, Rule: api.Rule{Kind: 77, N: -1}}
	for _, used := range []api.Change{late("dora", 0), {Kind: api.Cancel, A: "carl"}, {Kind: api.Quarrel, A: "carl", B: "anna"}, {Kind: api.Close, Table: "w", N: 1}, {Kind: api.Demand, Rule: api.Rule{Kind: api.Speak}}} {
		c := full
		c.Kind = used.Kind
		switch used.Kind {
		case api.Late:
			c.Guest, c.N = used.Guest, used.N
		case api.Cancel:
			c.A = used.A
		case api.Quarrel:
			c.A, c.B = used.A, used.B
		case api.Close:
			c.Table, c.N = used.Table, used.N
		case api.Demand:
			c.Rule = used.Rule
		}
		asks(t, "all fields", p, part, c, api.OK)
		q, x, _ := repair.Apply(p, part, c)
		r, y, _ := repair.Apply(p, part, used)
		if show(q, x) != show(r, y) {
			t.Errorf("%+v: %v, %v, not %v, %v", c, q, x, r, y)
		}
	}
}

// P10.2: the chapter's examples, and what the table of kinds names.
func TestApply(t *testing.T) {
	p := wider(t, "hard apart anna boris 2\nweigh 2 beside carl boris\nhard across anna carl\nhard near boris carl 1\nhard together carl anna\nhard at boris r\nhard seat boris r 1\nweigh 1 reach boris\nhard reach -\nhard kitchen boris r\nhard limit r 4\nhard seat anna r 0\n")
	p.Ties = []api.Tie{{A: "anna", B: "boris", Kind: api.Friend}, {A: "anna", B: "carl", Kind: api.Feud}, {A: "boris", B: "carl", Kind: api.Feud}}
	p.Class = []int{2, 0, 1}
	q, x, e := repair.Apply(p, []int{0, 1, -1}, api.Change{Kind: api.Cancel, A: "boris"})
	left := rule.Format(q.Rules)
	if e != api.OK || !slices.Equal(x, []int{0, -1}) || left != "hard across anna carl\nhard together carl anna\nhard reach -\nhard kitchen boris r\nhard limit r 4\nhard seat anna r 0\n" || show(q.Ties, q.Class, q.Guests) != show(p.Ties[1:2], []int{2, 1}, []api.Guest{p.Guests[0], p.Guests[2]}) {
		t.Errorf("cancel: %v, %v, %d", q, x, e)
	}
	for _, c := range []api.Change{{Kind: api.Quarrel, A: "boris", B: "anna"}, {Kind: api.Quarrel, A: "carl", B: "boris"}} {
		q, x, e := repair.Apply(p, []int{0, 1, -1}, c)
		ties := slices.Clone(p.Ties)
		if c.B == "anna" {
			ties[0].Kind = api.Feud
		}
		if e != api.OK || !slices.Equal(x, []int{0, 1, -1}) || !slices.Equal(q.Ties, ties) || !slices.Equal(q.Rules, append(slices.Clone(p.Rules), api.Rule{Kind: api.Apart, A: c.A, B: c.B, N: 2})) {
			t.Errorf("%v: %v, %v, %d", c, q, x, e)
		}
	}
	// The problem loses its classes with its last guest.
	one := feast(1, 2)
	one.Class = []int{9}
	if q, x, e := repair.Apply(one, []int{1}, api.Change{Kind: api.Cancel, A: "a"}); e != api.OK || len(x)+len(q.Class)+len(q.Guests) != 0 || len(q.Tables) != 1 {
		t.Error(q, x, e)
	}
	if q, x, e := repair.Apply(three(t, ""), []int{0, 1, 2}, late("dora", 0)); e != api.OK || !slices.Equal(x, []int{0, 1, 2, -1}) || len(q.Class) != 0 || q.Guests[3].Name != "dora" {
		t.Error(q, x, e)
	}
	if q, x, e := repair.Apply(three(t, ""), []int{0, 1, 2}, api.Change{Kind: api.Cancel, A: "boris"}); e != api.OK || !slices.Equal(x, []int{0, 2}) || len(q.Guests) != 2 {
		t.Error(q, x, e)
	}
	if q, x, e := repair.Apply(wider(t, "hard mix -\n"), []int{0, 1, 2}, api.Change{Kind: api.Close, Table: "r", N: 3}); e != api.OK || !slices.Equal(x, []int{0, 1, 2}) || rule.Format(q.Rules) != "hard mix -\nhard limit r 3\n" {
		t.Error(q, x, e)
	}
}

// P10.1, P10.2: against the chapter's words, of any problems. What a change makes is valid, shares no memory with what it was
// made from, and changes nothing of it (R4).
func TestAnyChange(t *testing.T) {
	r := rand.New(rand.NewSource(21))
	made, failed := map[api.ChangeKind]int{}, map[api.Errno]int{}
	for range 6000 {
		p := anyProblem(r, 5000, r.Intn(12))
		part, c := anyPart(r, p), anyChange(r, p)
		p0, part0 := copied(p), slices.Clone(part)
		want := checked(p, c)
		q, x, e := repair.Apply(p, part, c)
		if f := repair.Check(p, part, c); e != want || f != want {
			t.Fatalf("%v, %v, %+v: %d, %d, not %d", p, part, c, e, f, want)
		}
		if e != api.OK {
			failed[e]++
			if !nothing(q, x) {
				t.Fatalf("with error %d: %v, %v", e, q, x)
			}
			continue
		}
		made[c.Kind]++
		y, z := changed(p, part, c)
		if show(q, x) != show(y, z) {
			t.Fatalf("%+v makes of %v, %v\n%v, %v, not\n%v, %v", c, p, part, q, x, y, z)
		}
		if _, e := plan.CheckPart(q, x); e != api.OK {
			t.Fatalf("%+v makes of %v, %v\n%v, %v: %d", c, p, part, q, x, e)
		}
		scribble(q, x)
		if len(c.Guest.Tongues) > 0 && c.Guest.Tongues[0] == "?" || show(p, part) != show(p0, part0) {
			t.Fatal("shared memory")
		}
	}
	for k := api.Late; k <= api.Demand; k++ {
		if made[k] < 300 {
			t.Error("made", made)
		}
	}
	for _, e := range []api.Errno{api.ErrName, api.ErrTwice, api.ErrRoom, api.ErrClass, api.ErrUnknown, api.ErrCount} {
		if failed[e] < 20 {
			t.Error("failed", failed)
		}
	}
}

// scribble writes over all lists of a problem, and a partial plan.
func scribble(p api.Problem, part []int) {
	for _, t := range p.Tables {
		fill(t.Open, -9)
	}
	for _, g := range p.Guests {
		fill(g.Tongues, "?")
	}
	fill(p.Tables, api.Table{Name: "?"})
	fill(p.Guests, api.Guest{Name: "?"})
	fill(p.Ties, api.Tie{A: "?"})
	fill(p.Rules, api.Rule{A: "?"})
	fill(p.Class, -9)
	fill(part, -9)
}

// fill fills a list, and the room behind it.
func fill[T any](list []T, value T) {
	list = list[:cap(list)]
	for i := range list {
		list[i] = value
	}
}
