package large_test

import (
	"fmt"
	"math"
	"math/rand"
	"reflect"
	"slices"
	"strings"
	"testing"

	"trestle/api"
	"trestle/hall"
	"trestle/plan"
	"trestle/rule"
)

// rulesOf returns the rules of a text.
func rulesOf(t *testing.T, text string) []api.Rule {
	t.Helper()
	rules, line, e := rule.Parse(text)
	if e != api.OK {
		t.Fatalf("line %d of %q: %d", line, text, e)
	}
	return rules
}

// four returns the problem of the chapter's examples, with the rules of a text.
func four(t *testing.T, text string) api.Problem {
	t.Helper()
	return api.Problem{
		Tables: []api.Table{{Name: "r", Shape: api.Round, A: 3}, {Name: "w", Shape: api.Row, A: 2}},
		Guests: []api.Guest{{Name: "anna"}, {Name: "boris"}, {Name: "carl"}, {Name: "dora"}},
		Rules:  rulesOf(t, text),
	}
}

// asked is the text of the rules of the chapter's examples.
const asked = "hard together anna boris\nweigh 5 beside carl dora\nweigh 2 at carl r\nweigh 1 fill w 2\n"

// names returns n names, of 1 to 12 letters.
func names(n int) []string {
	var list []string
	for i := range n {
		list = append(list, strings.Repeat(string(rune('a'+i/12)), 1+i%12))
	}
	return list
}

// feast returns a problem with some guests at rows of 24 seats, and one for the rest of some number of seats.
func feast(guests, seats int) api.Problem {
	var p api.Problem
	for ; seats > 0; seats -= 24 {
		p.Tables = append(p.Tables, api.Table{Name: "t" + string(rune('a'+len(p.Tables))), Shape: api.Row, A: min(seats, 24)})
	}
	for _, name := range names(guests) {
		p.Guests = append(p.Guests, api.Guest{Name: name})
	}
	return p
}

// fail is a problem that is not valid, with the error of rule.Check.
type fail struct {
	p api.Problem
	e api.Errno
}

// fails returns problems that are not valid. They are too large for everything as well.
func fails() []fail {
	crowd := func(rules int) api.Problem {
		p := feast(64, 384)
		p.Rules = slices.Repeat([]api.Rule{{Kind: api.Limit}}, rules)
		return p
	}
	broken, packed, classes, doubled, unknown, kind, many := crowd(5), crowd(5), crowd(5), crowd(5), crowd(5), crowd(5), crowd(65)
	broken.Tables[1].B = 27
	packed.Tables = packed.Tables[:1]
	classes.Class = []int{0}
	doubled.Guests[1] = doubled.Guests[0]
	unknown.Rules[4] = api.Rule{Kind: api.Reach, A: "dan"}
	kind.Rules[4].Kind = 19
	return []fail{
		{broken, api.ErrShape}, {packed, api.ErrRoom}, {classes, api.ErrClass}, {doubled, api.ErrTwice},
		{unknown, api.ErrUnknown}, {kind, api.ErrKind}, {many, api.ErrMany},
	}
}

// pick returns one of some values.
func pick[T any](r *rand.Rand, values ...T) T { return values[r.Intn(len(values))] }

// strange returns numbers that are no tables, seats or rules of a small problem, and some that may be.
func strange() []int {
	return []int{math.MinInt, math.MinInt + 1, -3, -2, -1, 0, 1, 2, 3, 4, 5, 7, 24, 63, 64, 384, math.MaxInt - 1, math.MaxInt}
}

// anyTable returns a valid table with at most five seats.
func anyTable(r *rand.Rand, name string) api.Table {
	t := pick(r,
		api.Table{Shape: api.Round, A: 1 + r.Intn(5)}, api.Table{Shape: api.Round, A: 3 + r.Intn(2)},
		api.Table{Shape: api.Long, A: 1 + r.Intn(2), B: r.Intn(2)}, api.Table{Shape: api.Horseshoe, A: 1 + r.Intn(2), B: 1},
		api.Table{Shape: api.Row, A: 1 + r.Intn(3), B: r.Intn(2)})
	t.Name = name
	for k := range hall.Seats(t) {
		if r.Intn(5) == 0 {
			t.Open = append(t.Open, k)
		}
	}
	return t
}

// anyProblem returns a valid problem whose work is not above a limit, with about as many rules as asked.
func anyProblem(r *rand.Rand, limit, rules int) api.Problem {
	var p api.Problem
	for _, name := range []string{"top", "sun", "bar"}[:min(r.Intn(8), 3)] {
		p.Tables = append(p.Tables, anyTable(r, name))
	}
	for _, i := range r.Perm(6)[:min(r.Intn(9), 6, hall.Count(p.Tables))] {
		g := api.Guest{Name: names(6)[i], Court: pick(r, "", "spain"), Side: r.Intn(3), Diet: pick(r, "", "vegan"), Host: r.Intn(3) == 0, Access: r.Intn(3) == 0}
		if r.Intn(3) > 0 {
			g.Tongues = []string{pick(r, "dutch", "latin")}
		}
		p.Guests = append(p.Guests, g)
	}
	for n, ok := plan.Work(p); !ok || n > limit; n, ok = plan.Work(p) {
		p.Guests = p.Guests[1:]
	}
	sorted := slices.SortedFunc(slices.Values(p.Guests), func(g, h api.Guest) int { return strings.Compare(g.Name, h.Name) })
	for i, g := range sorted {
		for _, h := range sorted[i+1:] {
			if k := r.Intn(4); k > 0 && k < 3 {
				p.Ties = append(p.Ties, api.Tie{A: g.Name, B: h.Name, Kind: api.TieKind(k)})
			}
		}
	}
	if r.Intn(3) > 0 {
		for range p.Guests {
			p.Class = append(p.Class, r.Intn(3))
		}
	}
	for range rules {
		if x := anyRule(r, p); rule.CheckRule(p, x) == api.OK {
			p.Rules = append(p.Rules, x)
		}
	}
	return p
}

// anyRule returns a rule of a problem, most often a valid one, and more often a weighed one than a hard one.
func anyRule(r *rand.Rand, p api.Problem) api.Rule {
	x := api.Rule{Kind: api.RuleKind(1 + r.Intn(18)), Weight: pick(r, 0, 1, 1, 2, 7)}
	if len(p.Guests) == 0 || len(p.Tables) == 0 {
		x.Kind = pick(r, api.Fill, api.HostAt, api.Speak)
		x.N = r.Intn(2)
		return x
	}
	order := r.Perm(len(p.Guests))
	some := p.Tables[r.Intn(len(p.Tables))]
	switch x.Kind {
	case api.Apart, api.Beside, api.Across, api.Near, api.Together:
		x.A, x.B = p.Guests[order[0]].Name, p.Guests[order[len(order)-1]].Name
	case api.At, api.Seat:
		x.A, x.Table = p.Guests[order[0]].Name, some.Name
	case api.Kitchen:
		x.A, x.Table = "vegan", some.Name
	case api.Reach:
		x.A = pick(r, "", p.Guests[order[0]].Name)
	default:
		x.Table = pick(r, "", some.Name)
	}
	switch x.Kind {
	case api.Apart, api.Near, api.Fill, api.Limit:
		x.N = 1 + r.Intn(2)
	case api.Seat:
		x.N = r.Intn(hall.Seats(some))
	}
	return x
}

// anyPlan returns a plan of a problem.
func anyPlan(r *rand.Rand, p api.Problem) []int {
	return r.Perm(hall.Count(p.Tables))[:len(p.Guests)]
}

// show returns a text of values in which a nil list and an empty list are the same.
func show(values ...any) string { return fmt.Sprintf("%+v", values) }

// nothing reports whether values are zero values, as they are beside an error.
func nothing(values ...any) bool {
	return !slices.ContainsFunc(values, func(x any) bool {
		v := reflect.ValueOf(x)
		return !v.IsZero() && (v.Kind() != reflect.Slice || v.Len() > 0)
	})
}

// model is a problem with its judge, and a table for each seat.
type model struct {
	p     api.Problem
	judge *rule.Judge
	at    []int
}

// modelOf returns the model of a valid problem.
func modelOf(t *testing.T, p api.Problem) *model {
	t.Helper()
	j, _, e := rule.New(p)
	if e != api.OK {
		t.Fatalf("%v: %d", p, e)
	}
	m := &model{p: p, judge: j}
	for i, table := range p.Tables {
		for range hall.Seats(table) {
			m.at = append(m.at, i)
		}
	}
	return m
}

// tables returns the assignment of a plan.
func (m *model) tables(x []int) []int {
	var list []int
	for _, seat := range x {
		list = append(list, m.at[seat])
	}
	return list
}

// assigned reports whether a list is an assignment.
func (m *model) assigned(tables []int) bool {
	guests := map[int]int{}
	for _, t := range tables {
		guests[t]++
	}
	seats := map[int]int{}
	for _, t := range m.at {
		seats[t]++
	}
	for t, n := range guests {
		if n > seats[t] {
			return false
		}
	}
	return len(tables) == len(m.p.Guests)
}

// fixed returns the fixed faults of a rule.
func (m *model) fixed(tables []int, r api.Rule) int {
	n := 0
	table := func(g int) string { return m.p.Tables[tables[g]].Name }
	for g, one := range m.p.Guests {
		named := (r.Kind == api.At || r.Kind == api.Seat) && one.Name == r.A || r.Kind == api.Kitchen && one.Diet == r.A
		if named && table(g) != r.Table {
			n++
		}
		for h, other := range m.p.Guests {
			if table(g) == table(h) {
				continue
			}
			switch r.Kind {
			case api.Beside, api.Across, api.Near, api.Together:
				if r.A == one.Name && r.B == other.Name {
					n++
				}
			case api.Company:
				friends := slices.Contains(m.p.Ties, api.Tie{A: one.Name, B: other.Name, Kind: api.Friend})
				if friends && (r.Table == "" || r.Table == table(g) || r.Table == table(h)) {
					n++
				}
			}
		}
	}
	return n
}

// part returns the part of a table, with its guests and rules. It cuts the lines of the rules' text.
func (m *model) part(t *testing.T, tables []int, at int) (q api.Problem, guests, rules []int) {
	t.Helper()
	q.Tables = m.p.Tables[at : at+1]
	here := map[string]bool{"-": true}
	for g, one := range m.p.Guests {
		if tables[g] == at {
			q.Guests, guests = append(q.Guests, one), append(guests, g)
			here[one.Name] = true
			if len(m.p.Class) > 0 {
				q.Class = append(q.Class, m.p.Class[g])
			}
		}
	}
	for _, tie := range m.p.Ties {
		if here[tie.A] && here[tie.B] {
			q.Ties = append(q.Ties, tie)
		}
	}
	text := ""
	for i, line := range strings.Split(strings.TrimSuffix(rule.Format(m.p.Rules), "\n"), "\n") {
		words := strings.Fields(line)
		if len(words) == 0 {
			break
		}
		k := 1
		if words[0] == "weigh" {
			k = 2
		}
		if cut(words[k:], here, q.Tables[0].Name) {
			text += strings.Join(words, " ") + "\n"
			rules = append(rules, i)
		}
	}
	q.Rules = rulesOf(t, text)
	return q, guests, rules
}

// cut makes of the words of a rule, from its kind on, what is left of it at a table, if anything is.
func cut(words []string, here map[string]bool, table string) bool {
	switch words[0] {
	case "at", "kitchen":
		return false
	case "apart", "beside", "across", "near", "together":
		return here[words[1]] && here[words[2]]
	case "seat":
		return here[words[1]] && words[2] == table
	case "reach":
		return here[words[1]]
	}
	is := words[1] == "-" || words[1] == table
	words[1] = table
	return is
}

// plans calls a function with every partial plan in which just some guests are seated, in order.
func (m *model) plans(guests []int, do func(part []int)) {
	part := slices.Repeat([]int{-1}, len(m.p.Guests))
	var seat func(k int)
	seat = func(k int) {
		if k == len(guests) {
			do(part)
			return
		}
		for s := range m.at {
			if !slices.Contains(part, s) {
				part[guests[k]] = s
				seat(k + 1)
				part[guests[k]] = -1
			}
		}
	}
	seat(0)
}

// all returns the indices of a list of some length.
func all(n int) []int {
	var list []int
	for i := range n {
		list = append(list, i)
	}
	return list
}

// strain returns the strain of a partial plan.
func (m *model) strain(part []int) (hard, cost int) {
	for i, r := range m.p.Rules {
		if n := m.judge.Least(part, i); r.Weight == 0 {
			hard += n
		} else {
			cost += r.Weight * n
		}
	}
	return hard, cost
}

// least returns the first of some partial plans with the least strain.
func (m *model) least(parts [][]int) []int {
	return slices.MinFunc(parts, func(x, y []int) int {
		a, b := m.strain(x)
		c, d := m.strain(y)
		return slices.Compare([]int{a, b}, []int{c, d})
	})
}

// start returns the plan with which to start.
func (m *model) start() []int {
	part := slices.Repeat([]int{-1}, len(m.p.Guests))
	for g := range part {
		var parts [][]int
		for s := range m.at {
			if !slices.Contains(part, s) {
				next := slices.Clone(part)
				next[g] = s
				parts = append(parts, next)
			}
		}
		part = m.least(parts)
	}
	return part
}

// moves returns all plans that a move makes of a plan, in order.
func (m *model) moves(x []int) [][]int {
	var list [][]int
	for g, from := range x {
		for to := range m.at {
			if to == from {
				continue
			}
			next := slices.Clone(x)
			for h, s := range x {
				if s == to {
					next[h] = from
				}
			}
			next[g] = to
			list = append(list, next)
		}
	}
	return list
}

// improve returns what moves make of a plan, and how many.
func (m *model) improve(x []int, rounds int) ([]int, int) {
	n := 0
	for ; n < rounds; n++ {
		// A plan comes before all that are not better.
		next := m.least(append([][]int{x}, m.moves(x)...))
		if slices.Equal(next, x) {
			break
		}
		x = next
	}
	return x, n
}

// named returns the guests of some rules.
func (m *model) named(rules ...int) []int {
	var list []int
	for g := range m.p.Guests {
		if slices.ContainsFunc(rules, func(i int) bool { return slices.Contains(rule.Named(m.p, i), g) }) {
			list = append(list, g)
		}
	}
	return list
}

// work returns the work of some rules, as a number that may be rounded.
func (m *model) work(rules ...int) float64 {
	n := 1.0
	for k := range m.named(rules...) {
		n *= float64(len(m.at) - k)
	}
	return n
}

// packCost returns the cost of a pack.
func (m *model) packCost(rules []int) (int, api.Errno) {
	last := -1
	for _, i := range rules {
		if i <= last || i >= len(m.p.Rules) || m.p.Rules[i].Weight == 0 {
			return 0, api.ErrPack
		}
		last = i
	}
	if len(rules) == 0 {
		return 0, api.ErrPack
	}
	if m.work(rules...) > api.MaxWork {
		return 0, api.ErrLarge
	}
	least, e := 0, api.ErrNone
	m.plans(m.named(rules...), func(part []int) {
		cost := 0
		for _, i := range rules {
			cost += m.p.Rules[i].Weight * m.judge.Least(part, i)
		}
		if hard, _ := m.strain(part); hard == 0 && (e != api.OK || cost < least) {
			least, e = cost, api.OK
		}
	})
	return least, e
}

// packs returns the packs.
func (m *model) packs() ([]api.Pack, api.Errno) {
	var list []api.Pack
rules:
	for i, r := range m.p.Rules {
		if r.Weight == 0 || m.work(i) > 500 {
			continue
		}
		for k := range list {
			joined := append(slices.Clone(list[k].Rules), i)
			// Guests of both are counted once.
			if len(m.named(joined...)) < len(m.named(list[k].Rules...))+len(m.named(i)) && m.work(joined...) <= 500 {
				list[k].Rules = joined
				continue rules
			}
		}
		list = append(list, api.Pack{Rules: []int{i}})
	}
	for k := range list {
		cost, e := m.packCost(list[k].Rules)
		if e != api.OK {
			return nil, e
		}
		list[k].Cost = cost
	}
	return list, api.OK
}

// arrange returns the first right plan of the least cost with an assignment.
func (m *model) arrange(tables []int) (api.Ranked, api.Errno) {
	best, e := api.Ranked{}, api.ErrNone
	m.plans(all(len(m.p.Guests)), func(x []int) {
		if !slices.Equal(m.tables(x), tables) || !m.judge.Right(x) {
			return
		}
		if cost := m.judge.Cost(x); e != api.OK || cost < best.Cost {
			best, e = api.Ranked{Plan: slices.Clone(x), Cost: cost}, api.OK
		}
	})
	return best, e
}

// best returns the cost of the best plan, if there is a right plan.
func (m *model) best() (cost int, is bool) {
	m.plans(all(len(m.p.Guests)), func(x []int) {
		if m.judge.Right(x) && (!is || m.judge.Cost(x) < cost) {
			cost, is = m.judge.Cost(x), true
		}
	})
	return cost, is
}
