package search_test

import (
	"math"
	"math/rand"
	"slices"
	"strings"
	"testing"

	"trestle/api"
	"trestle/hall"
	"trestle/plan"
	"trestle/rule"
)

// ring is the problem of the chapter's examples, with some rules.
func ring(rules ...api.Rule) api.Problem {
	return api.Problem{
		Tables: []api.Table{{Name: "r", Shape: api.Round, A: 4}},
		Guests: []api.Guest{{Name: "anna"}, {Name: "boris"}, {Name: "carl"}},
		Rules:  rules,
	}
}

// apart is the hard rule of the chapter's first example, across the weighed one of its third.
var (
	apart  = api.Rule{Kind: api.Apart, A: "anna", B: "boris", N: 2}
	across = api.Rule{Kind: api.Across, A: "anna", B: "boris", Weight: 5}
)

// names returns n names, of 1 to 12 letters.
func names(n int) []string {
	var list []string
	for i := range n {
		list = append(list, strings.Repeat(string(rune('a'+i/12)), 1+i%12))
	}
	return list
}

// feast returns a problem with n guests and some tables, which it names.
func feast(guests int, tables ...api.Table) api.Problem {
	p := api.Problem{Tables: slices.Clone(tables)}
	for i := range p.Tables {
		p.Tables[i].Name = "t" + string(rune('a'+i))
	}
	for _, name := range names(guests) {
		p.Guests = append(p.Guests, api.Guest{Name: name})
	}
	return p
}

// pair returns a problem with two guests and that many seats, at round tables of 24 seats and one for the rest.
func pair(seats int) api.Problem {
	tables := slices.Repeat([]api.Table{{Shape: api.Round, A: 24}}, seats/24)
	if seats%24 > 0 {
		tables = append(tables, api.Table{Shape: api.Round, A: seats % 24})
	}
	return feast(2, tables...)
}

// fail is a problem that is not valid, with the error of rule.Check.
type fail struct {
	p api.Problem
	e api.Errno
}

// fails returns problems that are not valid. Their work would be too large as well.
func fails() []fail {
	broken, crowded, classes, doubled, unknown, kind, many := pair(384), pair(384), pair(384), pair(384), pair(384), pair(384), pair(384)
	broken.Tables[1].B = 7
	crowded.Tables = crowded.Tables[:1]
	crowded.Guests = feast(25).Guests
	classes.Class = []int{0}
	doubled.Guests[1] = doubled.Guests[0]
	unknown.Rules = []api.Rule{{Kind: api.Peace}, {Kind: api.Reach, A: "dan"}}
	kind.Rules = []api.Rule{{Kind: 19}}
	many.Rules = slices.Repeat([]api.Rule{{Kind: api.Mix}}, 65)
	return []fail{
		{broken, api.ErrShape}, {crowded, api.ErrRoom}, {classes, api.ErrClass}, {doubled, api.ErrTwice},
		{unknown, api.ErrUnknown}, {kind, api.ErrKind}, {many, api.ErrMany},
	}
}

// pick returns one of some values.
func pick[T any](r *rand.Rand, values ...T) T { return values[r.Intn(len(values))] }

// anyTable returns a valid table with at most six seats.
func anyTable(r *rand.Rand, name string) api.Table {
	t := pick(r,
		api.Table{Shape: api.Round, A: 1 + r.Intn(6)}, api.Table{Shape: api.Round, A: 3 + r.Intn(3)},
		api.Table{Shape: api.Long, A: 1 + r.Intn(2), B: r.Intn(3)}, api.Table{Shape: api.Horseshoe, A: 1 + r.Intn(2), B: 1 + r.Intn(2)},
		api.Table{Shape: api.Row, A: 1 + r.Intn(4), B: r.Intn(2)})
	t.Name = name
	if r.Intn(4) == 0 {
		t.Open = []int{r.Intn(hall.Seats(t))}
	}
	return t
}

// anyProblem returns a valid problem whose work is not above a limit, with some rules.
func anyProblem(r *rand.Rand, limit, rules int) api.Problem {
	var p api.Problem
	for _, name := range []string{"top", "sun", "bar"}[:min(r.Intn(5), 3)] {
		p.Tables = append(p.Tables, anyTable(r, name))
	}
	for _, i := range r.Perm(6)[:min(r.Intn(7), hall.Count(p.Tables))] {
		g := api.Guest{Name: names(6)[i], Court: pick(r, "", "spain"), Side: r.Intn(3), Diet: pick(r, "", "vegan"), Host: r.Intn(3) == 0, Access: r.Intn(3) == 0}
		if r.Intn(2) == 0 {
			g.Tongues = []string{pick(r, "dutch", "latin")}
		}
		p.Guests = append(p.Guests, g)
	}
	for n, ok := plan.Work(p); !ok || n > limit; n, ok = plan.Work(p) {
		p.Guests = p.Guests[1:]
	}
	sorted := slices.SortedFunc(slices.Values(p.Guests), func(g, h api.Guest) int { return strings.Compare(g.Name, h.Name) })
	for i, g := range sorted {
		for _, h := range sorted[i+1:] {
			if k := r.Intn(4); k > 0 && k < 3 {
				p.Ties = append(p.Ties, api.Tie{A: g.Name, B: h.Name, Kind: api.TieKind(k)})
			}
		}
	}
	if r.Intn(3) > 0 {
		for range p.Guests {
			p.Class = append(p.Class, r.Intn(3))
		}
	}
	for range rules {
		if x := anyRule(r, p); rule.CheckRule(p, x) == api.OK {
			p.Rules = append(p.Rules, x)
		}
	}
	return p
}

// anyRule returns a rule of a problem, most often a valid one.
func anyRule(r *rand.Rand, p api.Problem) api.Rule {
	x := api.Rule{Kind: api.RuleKind(1 + r.Intn(18)), Weight: pick(r, 0, 0, 1, 7, 1000)}
	if r.Intn(6) == 0 {
		x.Kind = api.Seat
	}
	if len(p.Guests) == 0 || len(p.Tables) == 0 {
		x.Kind = pick(r, api.Fill, api.HostAt, api.Speak)
		return x
	}
	order := r.Perm(len(p.Guests))
	some := p.Tables[r.Intn(len(p.Tables))]
	switch x.Kind {
	case api.Apart, api.Beside, api.Across, api.Near, api.Together:
		x.A, x.B = p.Guests[order[0]].Name, p.Guests[order[len(order)-1]].Name
	case api.At, api.Seat:
		x.A, x.Table = p.Guests[order[0]].Name, some.Name
	case api.Kitchen:
		x.A, x.Table = "vegan", some.Name
	case api.Reach:
		x.A = pick(r, "", p.Guests[order[0]].Name)
	default:
		x.Table = pick(r, "", some.Name)
	}
	switch x.Kind {
	case api.Apart, api.Near, api.Fill, api.Limit:
		x.N = 1 + r.Intn(2)
	case api.Seat:
		x.N = r.Intn(hall.Seats(some))
	}
	return x
}

// model is a problem with its right plans, found by going through all plans.
type model struct {
	t     *testing.T
	p     api.Problem
	judge *rule.Judge
	right []api.Ranked // in the order of plans
	canon []api.Ranked // those which are canonical
}

// modelOf returns the model of a valid problem.
func modelOf(t *testing.T, p api.Problem) *model {
	t.Helper()
	j, _, e := rule.New(p)
	x, f := plan.Unrank(p, 0)
	if e != api.OK || f != api.OK {
		t.Fatalf("%v: %d, %d", p, e, f)
	}
	m := &model{t: t, p: p, judge: j}
	for ok := true; ok; x, ok = plan.Next(p, x) {
		if !j.Right(x) {
			continue
		}
		ranked := api.Ranked{Plan: x, Cost: j.Cost(x)}
		m.right = append(m.right, ranked)
		if canon, _ := plan.Canon(p, x); slices.Equal(canon, x) {
			m.canon = append(m.canon, ranked)
		}
	}
	return m
}

// ranked returns plans ordered by their cost, then as lists.
func ranked(l []api.Ranked) []api.Ranked {
	return slices.SortedFunc(slices.Values(l), func(a, b api.Ranked) int {
		if a.Cost != b.Cost {
			return a.Cost - b.Cost
		}
		return slices.Compare(a.Plan, b.Plan)
	})
}

// equalRanked reports whether two lists of plans with their costs are equal.
func equalRanked(a, b []api.Ranked) bool {
	return slices.EqualFunc(a, b, func(x, y api.Ranked) bool { return x.Cost == y.Cost && slices.Equal(x.Plan, y.Plan) })
}

// node is a node of a proof: its partial plan, and the guest that the case above it seated, or -1.
type node struct {
	part []int
	last int
}

// root returns the node at which a proof begins.
func (m *model) root() node { return node{slices.Repeat([]int{-1}, len(m.p.Guests)), -1} }

// below returns the nodes below a case.
func (m *model) below(n node, g int) []node {
	var list []node
	for _, seat := range plan.Free(m.p, n.part) {
		part := slices.Clone(n.part)
		part[g] = seat
		list = append(list, node{part, g})
	}
	return list
}

// refused returns the error of a step at a node, by the chapter's table of steps; OK if it applies.
func (m *model) refused(n node, bound int, s api.Step) api.Errno {
	switch s.Kind {
	case api.Case:
		if s.N < 0 || s.N >= len(n.part) || n.part[s.N] != -1 {
			return api.ErrCase
		}
	case api.Broken:
		if !slices.Contains(rule.Hard(m.p), s.N) || m.judge.Least(n.part, s.N) == 0 {
			return api.ErrBroken
		}
	case api.Dear:
		if bound < 0 || m.judge.Floor(n.part) < bound {
			return api.ErrDear
		}
	case api.Turned:
		if n.last < 0 {
			return api.ErrTurned
		}
		t, _, _ := hall.Where(m.p.Tables, n.part[n.last])
		image, e := plan.Act(m.p, n.part, t, s.N)
		if e != api.OK || image[n.last] >= n.part[n.last] {
			return api.ErrTurned
		}
		image[n.last] = n.part[n.last]
		if !slices.Equal(image, n.part) {
			return api.ErrTurned
		}
	default:
		return api.ErrArg
	}
	return api.OK
}

// told returns what Verify is to say of a proof.
func (m *model) told(bound int, steps []api.Step) (int, api.Errno) {
	if len(steps) > api.MaxSteps {
		return 0, api.ErrMany
	}
	open := []node{m.root()}
	for i, s := range steps {
		if len(open) == 0 {
			return i, api.ErrRest
		}
		n := open[0]
		if e := m.refused(n, bound, s); e != api.OK {
			return i, e
		}
		open = open[1:]
		if s.Kind == api.Case {
			open = append(m.below(n, s.N), open...)
		}
	}
	if len(open) > 0 {
		return len(steps), api.ErrShort
	}
	return 0, api.OK
}

// holds reports whether every right plan costs at least a bound; if that is below 0, whether there is none.
func (m *model) holds(bound int) bool {
	return !slices.ContainsFunc(m.right, func(x api.Ranked) bool { return bound < 0 || x.Cost < bound })
}

// closings returns the steps, other than cases, that apply at a node.
func (m *model) closings(n node, bound int) []api.Step {
	list := []api.Step{{Kind: api.Dear, N: -3}}
	for i := range m.p.Rules {
		list = append(list, api.Step{Kind: api.Broken, N: i})
	}
	if n.last >= 0 {
		t, _, _ := hall.Where(m.p.Tables, n.part[n.last])
		for k := range plan.Group(m.p, t) {
			list = append(list, api.Step{Kind: api.Turned, N: k})
		}
	}
	return slices.DeleteFunc(list, func(s api.Step) bool { return m.refused(n, bound, s) != api.OK })
}

// anyProof returns a proof whose steps all apply, if there is one, with any of the steps that apply. Where there is none, it has
// some other step.
func (m *model) anyProof(r *rand.Rand, n node, bound int) []api.Step {
	var absent []int
	for g, seat := range n.part {
		if seat == -1 {
			absent = append(absent, g)
		}
	}
	closings := m.closings(n, bound)
	switch {
	case len(closings) > 0 && (len(absent) == 0 || r.Intn(8) > 0):
		return []api.Step{pick(r, closings...)}
	case len(absent) == 0:
		return []api.Step{anyStep(r)}
	}
	g := pick(r, absent...)
	steps := []api.Step{{Kind: api.Case, N: g}}
	for _, x := range m.below(n, g) {
		steps = append(steps, m.anyProof(r, x, bound)...)
	}
	return steps
}

// anyStep returns some step.
func anyStep(r *rand.Rand) api.Step {
	return api.Step{Kind: api.StepKind(r.Intn(6)), N: pick(r, 0, 0, 1, 1, 2, 3, 4, pick(r, strange()...))}
}

// strange returns numbers that are no guests, seats or elements of a small problem, and some that may be.
func strange() []int {
	return []int{math.MinInt, math.MinInt + 1, -3, -2, -1, 0, 1, 2, 3, 4, 5, 7, 24, 63, 64, 384, 999999999, 1000000000, math.MaxInt - 1, math.MaxInt}
}
