package large_test

import (
	"math/rand"
	"reflect"
	"slices"
	"testing"

	"trestle/api"
	"trestle/hall"
	"trestle/large"
	"trestle/rule"
)

// P8.9: the faults of a rule in a plan are its fixed faults, and the faults that it has in the parts of all tables.
func TestFaultsOfParts(t *testing.T) {
	r := rand.New(rand.NewSource(9))
	fixed, inside := map[api.RuleKind]int{}, map[api.RuleKind]int{}
	for range 1500 {
		p := anyProblem(r, 100000, r.Intn(12))
		x := anyPlan(r, p)
		tables := large.TablesOf(p, x)
		sums := large.Fixed(p, tables)
		for i, n := range sums {
			fixed[p.Rules[i].Kind] += n
		}
		for at := range p.Tables {
			part, guests, rules, e := large.Split(p, tables, at)
			j, _, f := rule.New(part)
			if e != api.OK || f != api.OK {
				t.Fatal(p, e, f)
			}
			var y []int
			for _, g := range guests {
				y = append(y, x[g]-hall.First(p.Tables, at))
			}
			for k, n := range j.Score(y) {
				sums[rules[k]] += n
				inside[part.Rules[k].Kind] += n
			}
		}
		j, _, _ := rule.New(p)
		if score := j.Score(x); !slices.Equal(score, sums) {
			t.Fatalf("%v: %v has the faults %v, not %v", p, x, score, sums)
		}
	}
	if len(fixed) < 18 || inside[api.Seat] < 20 || inside[api.Company] < 20 || inside[api.Speak] < 20 || inside[api.Peace] < 20 || inside[api.Mix] < 20 || inside[api.Honour] < 20 {
		t.Error(fixed, inside)
	}
}

// P8.9: if a certificate is accepted, every right plan costs at least its bound, and its plan costs at most its gap more than
// the best one (P4). Build's certificate is accepted; its plan is right (P2).
func TestCertificatesHold(t *testing.T) {
	r := rand.New(rand.NewSource(10))
	above, best := 0, 0
	for range 400 {
		m := modelOf(t, anyProblem(r, 700, r.Intn(12)))
		c, e := large.Build(m.p, r.Intn(4))
		least, is := m.best()
		if !is {
			if e == api.OK {
				t.Fatalf("%v: %v, but there is no right plan", m.p, c)
			}
			continue
		}
		if e == api.ErrNone {
			t.Fatalf("%v: there is a right plan that costs %d", m.p, least)
		}
		if e != api.OK {
			continue
		}
		if f := large.CheckCertificate(m.p, c); f != api.OK || !m.judge.Right(c.Plan) || least < c.Bound || c.Cost-least > large.Gap(c) {
			t.Fatalf("%v: %v, %d; the best plan costs %d", m.p, c, f, least)
		}
		if c.Bound > 0 {
			above++
		}
		if large.Gap(c) == 0 {
			best++
		}
		// So it is with any packs.
		for range 5 {
			pack := anyPack(r, m.p)
			n, e := large.PackCost(m.p, pack)
			if e == api.ErrNone || e == api.OK && n > least {
				t.Fatalf("%v: %v costs %d, %d; the best plan costs %d", m.p, pack, n, e, least)
			}
			d := api.Certificate{Plan: c.Plan, Cost: c.Cost, Packs: []api.Pack{{Rules: pack, Cost: n}}, Bound: n}
			if f := large.CheckCertificate(m.p, d); f != e {
				t.Fatalf("%v: %v: %d, not %d", m.p, d, f, e)
			}
		}
	}
	if above < 40 || best < 100 {
		t.Error(above, best)
	}
}

// P8.9: after fewer moves than rounds no move makes a plan better; what was arranged costs no more than before.
func TestNoBetterMove(t *testing.T) {
	r := rand.New(rand.NewSource(11))
	ended := 0
	for range 300 {
		m := modelOf(t, anyProblem(r, 700, r.Intn(9)))
		rounds := r.Intn(5)
		x, n, e := large.Improve(m.p, anyPlan(r, m.p), rounds)
		hard, cost := m.strain(x)
		if n > rounds || e != api.OK {
			t.Fatal(m.p, x, n, rounds, e)
		}
		if n < rounds {
			ended++
			for _, y := range m.moves(x) {
				if a, b := m.strain(y); a < hard || a == hard && b < cost {
					t.Fatalf("%v: %v is better than %v", m.p, y, x)
				}
			}
		}
		best, e := large.Arrange(m.p, large.TablesOf(m.p, x))
		if hard == 0 && (e != api.OK || best.Cost > cost) {
			t.Fatalf("%v: %v, %d, of %v", m.p, best, e, x)
		}
	}
	if ended < 150 {
		t.Error(ended)
	}
}

// copied returns a problem that shares no memory with another one.
func copied(p api.Problem) api.Problem {
	q := api.Problem{Ties: slices.Clone(p.Ties), Class: slices.Clone(p.Class), Rules: slices.Clone(p.Rules), Tables: slices.Clone(p.Tables), Guests: slices.Clone(p.Guests)}
	for i := range q.Tables {
		q.Tables[i].Open = slices.Clone(q.Tables[i].Open)
	}
	for i := range q.Guests {
		q.Guests[i].Tongues = slices.Clone(q.Guests[i].Tongues)
	}
	return q
}

// P1: every function answers, whatever its arguments are, and changes none of them (R4); with an error it answers nothing else.
func TestAnyArgument(t *testing.T) {
	r := rand.New(rand.NewSource(12))
	number := func() int { return pick(r, strange()...) }
	name := func() string { return pick(r, "", "-", "a", "aa", "top", "sun", "A", "\xff", "a b", "a\n") }
	list := func() []int {
		l := r.Perm(6)[:r.Intn(6)]
		if r.Intn(4) == 0 {
			l = append(l, number())
		}
		return l
	}
	for range 1500 {
		p := anyProblem(r, 400, r.Intn(9))
		switch r.Intn(8) {
		case 0:
			p.Class = []int{number(), number()}
		case 1:
			p.Tables = append(p.Tables, api.Table{Name: name(), Shape: api.Shape(r.Intn(6)), A: number(), B: number(), Open: []int{number()}, X: number()})
		case 2:
			p.Guests = append(p.Guests, api.Guest{Name: name(), Side: number(), Since: number(), Tongues: []string{name()}})
		case 3:
			p.Rules = append(p.Rules, api.Rule{Kind: api.RuleKind(r.Intn(20)), Weight: number(), A: name(), B: name(), Table: name(), N: number()})
		case 4:
			p.Ties = append(p.Ties, api.Tie{A: name(), B: name(), Kind: api.TieKind(r.Intn(4))})
		}
		x, tables, rules := list(), list(), list()
		if r.Intn(2) == 0 {
			tables = large.TablesOf(p, x)
		}
		c := api.Certificate{Plan: x, Cost: number(), Packs: []api.Pack{{Rules: rules, Cost: number()}, {Rules: list()}}, Bound: number()}
		first, second := copied(p), show(x, tables, c)
		askAll(t, p, tables, number(), c)
		if !reflect.DeepEqual(p, first) || show(x, tables, c) != second {
			t.Fatal("an argument is changed")
		}
	}
}

// askAll calls all functions, and fails a test if one answers something beside an error.
func askAll(t *testing.T, p api.Problem, tables []int, n int, c api.Certificate) {
	t.Helper()
	_, invalid := rule.Check(p)
	silent := func(what string, e api.Errno, answers ...any) {
		t.Helper()
		if invalid != api.OK && e != invalid {
			t.Fatalf("%s of %v: %d, not %d", what, p, e, invalid)
		}
		if e != api.OK && !nothing(answers...) {
			t.Fatalf("%s with error %d: %v", what, e, answers)
		}
	}
	if l, is := large.TablesOf(p, c.Plan), large.Assigned(p, tables); invalid != api.OK && (is || l != nil || large.Fixed(p, tables) != nil) {
		t.Fatal("an assignment of", p)
	}
	part, guests, rules, e := large.Split(p, tables, n)
	silent("Split", e, part, guests, rules)
	best, e := large.Arrange(p, tables)
	silent("Arrange", e, best)
	x, e := large.Start(p)
	silent("Start", e, x)
	y, k, e := large.Improve(p, c.Plan, n)
	silent("Improve", e, y, k)
	cost, e := large.PackCost(p, c.Packs[0].Rules)
	silent("PackCost", e, cost)
	packs, e := large.Packs(p)
	silent("Packs", e, packs)
	bound, e := large.Bound(p, c.Packs)
	silent("Bound", e, bound)
	d, e := large.Build(p, n%10)
	silent("Build", e, d)
	silent("CheckCertificate", large.CheckCertificate(p, c))
	large.Gap(c)
}

// spoil changes all numbers of lists, and what may lie behind their ends.
func spoil(lists ...[]int) {
	for _, l := range lists {
		_ = append(l, -7)
		for k := range l {
			l[k] = -7
		}
	}
}

// R4: a result shares no memory with an argument, and its lists share none with each other.
func TestNewMemory(t *testing.T) {
	p := four(t, asked+"weigh 1 seat boris r 0\nweigh 1 together anna boris\n")
	p.Class, p.Tables[0].Open, p.Guests[0].Tongues = []int{1, 2, 3, 4}, []int{0, 2}, []string{"dutch", "latin"}
	p.Ties = []api.Tie{{A: "anna", B: "boris", Kind: api.Friend}}
	before := copied(p)
	tables, from := []int{0, 0, 1, 1}, []int{0, 1, 3, 4}
	first := ""
	for range 2 {
		l, fixed := large.TablesOf(p, from), large.Fixed(p, tables)
		part, guests, rules, _ := large.Split(p, tables, 0)
		best, _ := large.Arrange(p, tables)
		start, _ := large.Start(p)
		same, _, _ := large.Improve(p, from, 0)
		next, _, _ := large.Improve(p, []int{0, 1, 2, 3}, 9)
		packs, _ := large.Packs(p)
		c, _ := large.Build(p, 9)
		text := show(l, fixed, part, guests, rules, best, start, same, next, packs, c)
		if first == "" {
			first = text
		}
		if text != first {
			t.Errorf("%s, not %s", text, first)
		}
		spoil(l, fixed, part.Class, part.Tables[0].Open, guests, rules, best.Plan, start, same, next, c.Plan)
		for _, pack := range append(packs, c.Packs...) {
			spoil(pack.Rules)
		}
		part.Guests[0].Tongues[0], part.Guests[0].Name, part.Ties[0].A, part.Rules[0].A, part.Tables[0].Name = "x", "x", "x", "x", "x"
		if !reflect.DeepEqual(p, before) || !slices.Equal(tables, []int{0, 0, 1, 1}) || !slices.Equal(from, []int{0, 1, 3, 4}) {
			t.Fatal("an argument is changed")
		}
	}
}

// R3: a nil list and an empty one are the same.
func TestNilAndEmpty(t *testing.T) {
	empty := api.Problem{Tables: []api.Table{}, Guests: []api.Guest{}, Ties: []api.Tie{}, Class: []int{}, Rules: []api.Rule{}}
	for _, p := range []api.Problem{{}, empty} {
		for _, l := range [][]int{nil, {}} {
			best, e := large.Arrange(p, l)
			x, n, f := large.Improve(p, l, 3)
			if !large.Assigned(p, l) || !nothing(best.Cost, best.Plan, x, n) || e != api.OK || f != api.OK {
				t.Error(best, e, x, n, f)
			}
			if _, e := large.PackCost(p, l); e != api.ErrPack {
				t.Error(e)
			}
			if e := large.CheckCertificate(p, api.Certificate{Plan: l, Packs: []api.Pack{}}); e != api.OK {
				t.Error(e)
			}
		}
	}
}
