package conflict_test

import (
	"cmp"
	"math"
	"math/rand"
	"slices"
	"strings"
	"testing"

	"trestle/api"
	"trestle/hall"
	"trestle/plan"
	"trestle/rule"
)

// rulesOf returns the rules of a text.
func rulesOf(t *testing.T, text string) []api.Rule {
	t.Helper()
	rules, line, e := rule.Parse(text)
	if e != api.OK {
		t.Fatalf("line %d of %q: %d", line, text, e)
	}
	return rules
}

// sun returns a round table of 4 seats with the guests ann, bob and cid, and the rules of a text.
func sun(t *testing.T, text string) api.Problem {
	t.Helper()
	return api.Problem{
		Tables: []api.Table{{Name: "sun", Shape: api.Round, A: 4}},
		Guests: []api.Guest{{Name: "ann"}, {Name: "bob"}, {Name: "cid"}},
		Rules:  rulesOf(t, text),
	}
}

// asked is the text of the rules of the chapter's examples.
const asked = "hard beside ann bob\nhard across ann bob\nhard apart bob cid 2\nweigh 3 beside ann cid\nhard seat ann sun 0\n"

// example returns the problem of the chapter's examples.
func example(t *testing.T) api.Problem {
	t.Helper()
	return sun(t, asked)
}

// names returns n names, of 1 to 12 letters.
func names(n int) []string {
	var list []string
	for i := range n {
		list = append(list, strings.Repeat(string(rune('a'+i/12)), 1+i%12))
	}
	return list
}

// feast returns a problem with n guests at round tables of 24 seats, and one for the rest of some number of seats.
func feast(guests, seats int) api.Problem {
	var p api.Problem
	for ; seats > 0; seats -= 24 {
		p.Tables = append(p.Tables, api.Table{Name: "t" + string(rune('a'+len(p.Tables))), Shape: api.Round, A: min(seats, 24)})
	}
	for _, name := range names(guests) {
		p.Guests = append(p.Guests, api.Guest{Name: name})
	}
	return p
}

// crowd returns a problem whose work is too large, with n hard rules that each exclude.
func crowd(n int) api.Problem {
	p := feast(64, 384)
	p.Rules = slices.Repeat([]api.Rule{{Kind: api.Limit}}, n)
	return p
}

// fail is a problem that is not valid, with the error of rule.Check.
type fail struct {
	p api.Problem
	e api.Errno
}

// fails returns problems that are not valid. Their work would be too large as well, and most have too many hard rules.
func fails() []fail {
	broken, packed, classes, doubled, unknown, kind, many := crowd(11), crowd(11), crowd(11), crowd(11), crowd(11), crowd(11), crowd(65)
	broken.Tables[1].B = 7
	packed.Tables = packed.Tables[:1]
	classes.Class = []int{0}
	doubled.Guests[1] = doubled.Guests[0]
	unknown.Rules[4] = api.Rule{Kind: api.Reach, A: "dan"}
	kind.Rules[10].Kind = 19
	return []fail{
		{broken, api.ErrShape}, {packed, api.ErrRoom}, {classes, api.ErrClass}, {doubled, api.ErrTwice},
		{unknown, api.ErrUnknown}, {kind, api.ErrKind}, {many, api.ErrMany},
	}
}

// larges returns valid problems that are too large to be examined: by their work, by their hard rules, or by both.
func larges(t *testing.T) []api.Problem {
	t.Helper()
	return []api.Problem{feast(2, 142), crowd(1), sun(t, strings.Repeat("hard mix -\n", 11)), crowd(11)}
}

// pick returns one of some values.
func pick[T any](r *rand.Rand, values ...T) T { return values[r.Intn(len(values))] }

// strange returns numbers that are no rules or seats of a small problem, and some that may be.
func strange() []int {
	return []int{math.MinInt, math.MinInt + 1, -3, -2, -1, 0, 1, 2, 3, 4, 5, 7, 24, 63, 64, 384, math.MaxInt - 1, math.MaxInt}
}

// anyTable returns a valid table with at most six seats.
func anyTable(r *rand.Rand, name string) api.Table {
	t := pick(r,
		api.Table{Shape: api.Round, A: 1 + r.Intn(6)}, api.Table{Shape: api.Round, A: 3 + r.Intn(3)},
		api.Table{Shape: api.Long, A: 1 + r.Intn(2), B: r.Intn(3)}, api.Table{Shape: api.Horseshoe, A: 1 + r.Intn(2), B: 1 + r.Intn(2)},
		api.Table{Shape: api.Row, A: 1 + r.Intn(4), B: r.Intn(2)})
	t.Name = name
	if r.Intn(4) == 0 {
		t.Open = []int{r.Intn(hall.Seats(t))}
	}
	return t
}

// anyProblem returns a valid problem whose work is not above a limit, with some rules, most of them hard.
func anyProblem(r *rand.Rand, limit, rules int) api.Problem {
	var p api.Problem
	for _, name := range []string{"top", "sun", "bar"}[:min(r.Intn(6), 3)] {
		p.Tables = append(p.Tables, anyTable(r, name))
	}
	for _, i := range r.Perm(6)[:min(r.Intn(9), 6, hall.Count(p.Tables))] {
		g := api.Guest{Name: names(6)[i], Court: pick(r, "", "spain"), Side: r.Intn(3), Diet: pick(r, "", "vegan"), Host: r.Intn(3) == 0, Access: r.Intn(3) == 0}
		if r.Intn(2) == 0 {
			g.Tongues = []string{pick(r, "dutch", "latin")}
		}
		p.Guests = append(p.Guests, g)
	}
	for n, ok := plan.Work(p); !ok || n > limit; n, ok = plan.Work(p) {
		p.Guests = p.Guests[1:]
	}
	sorted := slices.SortedFunc(slices.Values(p.Guests), func(g, h api.Guest) int { return strings.Compare(g.Name, h.Name) })
	for i, g := range sorted {
		for _, h := range sorted[i+1:] {
			if k := r.Intn(4); k > 0 && k < 3 {
				p.Ties = append(p.Ties, api.Tie{A: g.Name, B: h.Name, Kind: api.TieKind(k)})
			}
		}
	}
	if r.Intn(3) > 0 {
		for range p.Guests {
			p.Class = append(p.Class, r.Intn(3))
		}
	}
	for range rules {
		if x := anyRule(r, p); rule.CheckRule(p, x) == api.OK {
			p.Rules = append(p.Rules, x)
		}
	}
	return p
}

// anyRule returns a rule of a problem, most often a valid one, and most often about two guests.
func anyRule(r *rand.Rand, p api.Problem) api.Rule {
	x := api.Rule{Kind: api.RuleKind(1 + r.Intn(18)), Weight: pick(r, 0, 0, 0, 1, 7)}
	if r.Intn(2) == 0 {
		x.Kind = pick(r, api.Apart, api.Beside, api.Across, api.Near, api.Together, api.Seat)
	}
	if len(p.Guests) == 0 || len(p.Tables) == 0 {
		x.Kind = pick(r, api.Fill, api.HostAt, api.Speak)
		x.N = r.Intn(2)
		return x
	}
	order := r.Perm(len(p.Guests))
	some := p.Tables[r.Intn(len(p.Tables))]
	switch x.Kind {
	case api.Apart, api.Beside, api.Across, api.Near, api.Together:
		x.A, x.B = p.Guests[order[0]].Name, p.Guests[order[len(order)-1]].Name
	case api.At, api.Seat:
		x.A, x.Table = p.Guests[order[0]].Name, some.Name
	case api.Kitchen:
		x.A, x.Table = "vegan", some.Name
	case api.Reach:
		x.A = pick(r, "", p.Guests[order[0]].Name)
	default:
		x.Table = pick(r, "", some.Name)
	}
	switch x.Kind {
	case api.Apart, api.Near, api.Fill, api.Limit:
		x.N = 1 + r.Intn(2)
	case api.Seat:
		x.N = r.Intn(hall.Seats(some))
	}
	return x
}

// equal reports whether two lists of lists are equal.
func equal(a, b [][]int) bool { return slices.EqualFunc(a, b, slices.Equal[[]int]) }

// inOrder compares two sets by their order.
func inOrder(a, b []int) int {
	if len(a) != len(b) {
		return cmp.Compare(len(a), len(b))
	}
	return slices.Compare(a, b)
}

// breach is a plan, with the hard rules that it breaks and its cost.
type breach struct {
	plan, broken []int
	cost         int
}

// model is a problem with all its plans, in order. Sets of its hard rules are numbers: bit k stands for the hard rule at place k.
type model struct {
	t     *testing.T
	p     api.Problem
	judge *rule.Judge
	hard  []int
	plans []breach
	meets []bool // for each set whether some plan meets all of it
}

// modelOf returns the model of a valid problem.
func modelOf(t *testing.T, p api.Problem) *model {
	t.Helper()
	j, _, e := rule.New(p)
	x, f := plan.Unrank(p, 0)
	if e != api.OK || f != api.OK {
		t.Fatalf("%v: %d, %d", p, e, f)
	}
	m := &model{t: t, p: p, judge: j, hard: rule.Hard(p)}
	for ok := true; ok; x, ok = plan.Next(p, x) {
		b := breach{plan: x, cost: j.Cost(x)}
		for _, i := range m.hard {
			if j.Faults(x, i) > 0 {
				b.broken = append(b.broken, i)
			}
		}
		m.plans = append(m.plans, b)
	}
	for s := range 1 << len(m.hard) {
		_, ok := m.first(m.rules(s))
		m.meets = append(m.meets, ok)
	}
	return m
}

// rules returns the rules of a set.
func (m *model) rules(set int) []int {
	var list []int
	for k, i := range m.hard {
		if set&(1<<k) != 0 {
			list = append(list, i)
		}
	}
	return list
}

// set returns the set of some rules.
func (m *model) set(rules []int) int {
	set := 0
	for _, i := range rules {
		set |= 1 << slices.Index(m.hard, i)
	}
	return set
}

// first returns the first plan that meets all of some rules.
func (m *model) first(rules []int) ([]int, bool) {
	for _, x := range m.plans {
		if !slices.ContainsFunc(rules, func(i int) bool { return slices.Contains(x.broken, i) }) {
			return x.plan, true
		}
	}
	return nil, false
}

// least returns the sets of a kind of which no proper subset is of that kind, in order.
func (m *model) least(is func(set int) bool) [][]int {
	var list [][]int
	for s := range m.meets {
		least := is(s)
		for below := range s {
			least = least && !(below&s == below && is(below))
		}
		if least {
			list = append(list, m.rules(s))
		}
	}
	slices.SortFunc(list, inOrder)
	return list
}

// cores returns all cores, in order.
func (m *model) cores() [][]int { return m.least(func(set int) bool { return !m.meets[set] }) }

// releases returns all releases, in order.
func (m *model) releases() [][]int {
	return m.least(func(set int) bool { return m.meets[len(m.meets)-1-set] })
}

// isCore reports whether some rules are a core.
func (m *model) isCore(rules []int) bool {
	return slices.ContainsFunc(m.cores(), func(core []int) bool { return slices.Equal(core, rules) })
}

// shrunk returns what is left of a set that excludes if its rules are left out, one after the other, as long as it does.
func (m *model) shrunk(set int) int {
	for k := range m.hard {
		if without := set &^ (1 << k); !m.meets[without] {
			set = without
		}
	}
	return set
}

// anySet returns the rules of a set in any order, some of them more than once.
func (m *model) anySet(r *rand.Rand, set int) []int {
	rules := m.rules(set)
	for range r.Intn(3) {
		if len(rules) > 0 {
			rules = append(rules, pick(r, rules...))
		}
	}
	r.Shuffle(len(rules), func(i, j int) { rules[i], rules[j] = rules[j], rules[i] })
	return rules
}
