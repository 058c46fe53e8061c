package repair_test

import (
	"cmp"
	"fmt"
	"math"
	"math/big"
	"math/rand"
	"reflect"
	"slices"
	"strings"
	"testing"

	"trestle/api"
	"trestle/guest"
	"trestle/hall"
	"trestle/plan"
	"trestle/rule"
)

// rulesOf returns the rules of a text.
func rulesOf(t *testing.T, text string) []api.Rule {
	t.Helper()
	rules, line, e := rule.Parse(text)
	if e != api.OK {
		t.Fatalf("line %d of %q: %d", line, text, e)
	}
	return rules
}

// three returns the problem of the chapter's examples, with the rules of a text.
func three(t *testing.T, text string) api.Problem {
	t.Helper()
	return api.Problem{
		Tables: []api.Table{{Name: "r", Shape: api.Round, A: 4}},
		Guests: []api.Guest{{Name: "anna"}, {Name: "boris"}, {Name: "carl"}},
		Rules:  rulesOf(t, text),
	}
}

// wider returns the problem of the chapter's examples with the second table.
func wider(t *testing.T, text string) api.Problem {
	t.Helper()
	p := three(t, text)
	p.Tables = append(p.Tables, api.Table{Name: "w", Shape: api.Row, A: 1})
	return p
}

// names returns n names, of 1 to 12 letters.
func names(n int) []string {
	var list []string
	for i := range n {
		list = append(list, strings.Repeat(string(rune('a'+i/12)), 1+i%12))
	}
	return list
}

// feast returns a problem with some guests at rows of 24 seats, and one for the rest of some number of seats.
func feast(guests, seats int) api.Problem {
	var p api.Problem
	for ; seats > 0; seats -= 24 {
		p.Tables = append(p.Tables, api.Table{Name: "t" + string(rune('a'+len(p.Tables))), Shape: api.Row, A: min(seats, 24)})
	}
	for _, name := range names(guests) {
		p.Guests = append(p.Guests, api.Guest{Name: name})
	}
	return p
}

// web returns n ties of the guests of a problem.
func web(p api.Problem, n int) []api.Tie {
	var list []api.Tie
	for _, g := range p.Guests {
		for _, h := range p.Guests {
			if g.Name < h.Name && len(list) < n {
				list = append(list, api.Tie{A: g.Name, B: h.Name, Kind: api.Friend})
			}
		}
	}
	slices.SortFunc(list, func(s, t api.Tie) int { return cmp.Or(strings.Compare(s.A, t.A), strings.Compare(s.B, t.B)) })
	return list
}

// first returns a partial plan in which the first guests of a problem sit on the first seats.
func first(p api.Problem, seated int) []int {
	part := slices.Repeat([]int{-1}, len(p.Guests))
	for g := range seated {
		part[g] = g
	}
	return part
}

// fail is a problem or a partial plan that is not valid, with the error of rule.Check or plan.CheckPart.
type fail struct {
	p    api.Problem
	part []int
	e    api.Errno
}

// fails returns problems and partial plans that are not valid. Where the problem is not, the partial plan is none either.
func fails() []fail {
	crowd := func(rules int) api.Problem {
		p := feast(64, 384)
		p.Rules = slices.Repeat([]api.Rule{{Kind: api.Limit}}, rules)
		return p
	}
	broken, packed, classes, doubled, unknown, kind, many := crowd(5), crowd(5), crowd(5), crowd(5), crowd(5), crowd(5), crowd(65)
	broken.Tables[1].B = 27
	packed.Tables = packed.Tables[:1]
	classes.Class = []int{0}
	doubled.Guests[1] = doubled.Guests[0]
	unknown.Rules[4] = api.Rule{Kind: api.Reach, A: "dan"}
	kind.Rules[4].Kind = 19
	p := crowd(64)
	far, taken := first(p, 64), first(p, 64)
	far[2], taken[3] = 384, 0
	low := append([]int{-2}, taken[1:]...)
	return []fail{
		{broken, nil, api.ErrShape}, {packed, far, api.ErrRoom}, {classes, nil, api.ErrClass}, {doubled, taken, api.ErrTwice},
		{unknown, nil, api.ErrUnknown}, {kind, nil, api.ErrKind}, {many, far, api.ErrMany},
		{p, nil, api.ErrStale}, {p, first(p, 64)[1:], api.ErrStale}, {p, make([]int, 65), api.ErrStale}, {p, far, api.ErrSeat}, {p, low, api.ErrSeat}, {p, taken, api.ErrTaken},
	}
}

// pick returns one of some values.
func pick[T any](r *rand.Rand, values ...T) T { return values[r.Intn(len(values))] }

// strange returns numbers that are no guests or seats of a small problem, and some that may be.
func strange() []int {
	return []int{math.MinInt, math.MinInt + 1, -3, -2, -1, 0, 1, 2, 3, 4, 5, 7, 24, 63, 64, 384, math.MaxInt - 1, math.MaxInt}
}

// anyTable returns a valid table with at most five seats.
func anyTable(r *rand.Rand, name string) api.Table {
	t := pick(r,
		api.Table{Shape: api.Round, A: 1 + r.Intn(5)}, api.Table{Shape: api.Round, A: 3 + r.Intn(2)},
		api.Table{Shape: api.Long, A: 1 + r.Intn(2), B: r.Intn(2)}, api.Table{Shape: api.Horseshoe, A: 1 + r.Intn(2), B: 1},
		api.Table{Shape: api.Row, A: 1 + r.Intn(3), B: r.Intn(2)})
	t.Name = name
	for k := range hall.Seats(t) {
		if r.Intn(3) == 0 {
			t.Open = append(t.Open, k)
		}
	}
	return t
}

// anyGuest returns a valid guest.
func anyGuest(r *rand.Rand, name string) api.Guest {
	g := api.Guest{Name: name, Court: pick(r, "", "spain"), Side: r.Intn(3), Diet: pick(r, "", "vegan", "aa"), Host: r.Intn(3) == 0, Access: r.Intn(3) == 0}
	if r.Intn(3) > 0 {
		g.Tongues = []string{pick(r, "dutch", "latin")}
	}
	return g
}

// anyProblem returns a valid problem whose work is not above a limit, with about as many rules as asked.
func anyProblem(r *rand.Rand, limit, rules int) api.Problem {
	var p api.Problem
	for _, name := range []string{"top", "sun", "bar"}[:min(r.Intn(12), 3)] {
		p.Tables = append(p.Tables, anyTable(r, name))
	}
	for _, i := range r.Perm(6)[:min(r.Intn(16), 6, hall.Count(p.Tables))] {
		p.Guests = append(p.Guests, anyGuest(r, names(6)[i]))
	}
	for n, ok := plan.Work(p); !ok || n > limit; n, ok = plan.Work(p) {
		p.Guests = p.Guests[1:]
	}
	sorted := slices.SortedFunc(slices.Values(p.Guests), func(g, h api.Guest) int { return strings.Compare(g.Name, h.Name) })
	for i, g := range sorted {
		for _, h := range sorted[i+1:] {
			if k := r.Intn(4); k > 0 && k < 3 {
				p.Ties = append(p.Ties, api.Tie{A: g.Name, B: h.Name, Kind: api.TieKind(k)})
			}
		}
	}
	if r.Intn(3) > 0 {
		for range p.Guests {
			p.Class = append(p.Class, r.Intn(3))
		}
	}
	for range rules {
		if x := anyRule(r, p); rule.CheckRule(p, x) == api.OK {
			p.Rules = append(p.Rules, x)
		}
	}
	return p
}

// anyRule returns a rule of a problem, most often a valid one.
func anyRule(r *rand.Rand, p api.Problem) api.Rule {
	x := api.Rule{Kind: api.RuleKind(1 + r.Intn(18)), Weight: pick(r, 0, 0, 0, 1, 2, 7)}
	if len(p.Guests) == 0 || len(p.Tables) == 0 {
		x.Kind = pick(r, api.Fill, api.HostAt, api.Speak)
		x.N = r.Intn(2)
		return x
	}
	order := r.Perm(len(p.Guests))
	some := p.Tables[r.Intn(len(p.Tables))]
	switch x.Kind {
	case api.Apart, api.Beside, api.Across, api.Near, api.Together:
		x.A, x.B = p.Guests[order[0]].Name, p.Guests[order[len(order)-1]].Name
	case api.At, api.Seat:
		x.A, x.Table = p.Guests[order[0]].Name, some.Name
	case api.Kitchen:
		x.A, x.Table = pick(r, "vegan", "aa"), some.Name
	case api.Reach:
		x.A = pick(r, "", p.Guests[order[0]].Name)
	default:
		x.Table = pick(r, "", some.Name)
	}
	switch x.Kind {
	case api.Apart, api.Near, api.Fill, api.Limit:
		x.N = 1 + r.Intn(2)
	case api.Seat:
		x.N = r.Intn(hall.Seats(some))
	}
	return x
}

// solvable returns a problem with more rules, those of which alone are hard that hold in some plan.
func solvable(r *rand.Rand, p api.Problem) api.Problem {
	for range 8 {
		if x := anyRule(r, p); rule.CheckRule(p, x) == api.OK {
			p.Rules = append(p.Rules, x)
		}
	}
	j, _, _ := rule.New(p)
	broken := j.Broken(r.Perm(hall.Count(p.Tables))[:len(p.Guests)])
	var left []int
	for i := range p.Rules {
		if !slices.Contains(broken, i) {
			left = append(left, i)
		}
	}
	return rule.Only(p, left)
}

// anyPart returns a partial plan of a problem, quite often one in which all guests are seated.
func anyPart(r *rand.Rand, p api.Problem) []int {
	part := r.Perm(hall.Count(p.Tables))[:len(p.Guests)]
	if absent := max(r.Intn(6)-2, 0); absent > 0 {
		for g := range part {
			if r.Intn(4) < absent {
				part[g] = -1
			}
		}
	}
	return part
}

// anyChange returns a change of a problem, most often one that can be made. It uses the fields of its kind alone.
func anyChange(r *rand.Rand, p api.Problem) api.Change {
	some := func() string {
		if len(p.Guests) == 0 || r.Intn(12) == 0 {
			return pick(r, "", "zoe")
		}
		return p.Guests[r.Intn(len(p.Guests))].Name
	}
	c := api.Change{Kind: api.ChangeKind(1 + r.Intn(5))}
	switch c.Kind {
	case api.Late:
		c.Guest = anyGuest(r, pick(r, append(names(6), "zoe", "xenia", "A")...))
		if len(p.Class) > 0 || r.Intn(12) == 0 {
			c.N = pick(r, 0, 1, 2, 63, 64, -1)
		}
	case api.Cancel:
		c.A = some()
	case api.Quarrel:
		c.A, c.B = some(), some()
	case api.Close:
		c.Table, c.N = pick(r, "top", "sun", "bar", "sun", ""), pick(r, -1, 0, 0, 1, 2, 24, 25)
	default:
		c.Rule = anyRule(r, p)
	}
	return c
}

// checked returns what P10.1 says of a change of a valid problem, whose fields its kind uses alone.
func checked(p api.Problem, c api.Change) api.Errno {
	is := func(name string) bool {
		return slices.ContainsFunc(p.Guests, func(g api.Guest) bool { return g.Name == name })
	}
	tied := func(s api.Tie) bool { return s.A == c.A && s.B == c.B || s.A == c.B && s.B == c.A }
	none := func(list ...api.Errno) api.Errno { return cmp.Or(list...) }
	when := func(wrong bool, e api.Errno) api.Errno {
		if wrong {
			return e
		}
		return api.OK
	}
	crowded := when(len(p.Rules) == api.MaxRules, api.ErrMany)
	switch c.Kind {
	case api.Late:
		return none(guest.Check(c.Guest), when(is(c.Guest.Name), api.ErrTwice), when(len(p.Guests) == 64, api.ErrMany),
			when(len(p.Guests) == hall.Count(p.Tables), api.ErrRoom), when(c.N < 0 || c.N > 63 || len(p.Class) == 0 && c.N != 0, api.ErrClass))
	case api.Cancel:
		return when(!is(c.A), api.ErrUnknown)
	case api.Quarrel:
		return none(when(!is(c.A), api.ErrUnknown), when(!is(c.B), api.ErrUnknown), when(c.A == c.B, api.ErrTwice), crowded,
			when(!slices.ContainsFunc(p.Ties, tied) && len(p.Ties) == 256, api.ErrMany))
	case api.Close:
		there := slices.ContainsFunc(p.Tables, func(t api.Table) bool { return t.Name == c.Table })
		return none(when(!there, api.ErrUnknown), when(c.N < 0 || c.N > 24, api.ErrCount), crowded)
	case api.Demand:
		return none(rule.CheckRule(p, c.Rule), crowded)
	}
	return api.ErrChange
}

// changed returns what P10.2 and the table of kinds say that a change makes which can be made.
func changed(p api.Problem, part []int, c api.Change) (api.Problem, []int) {
	q, x := copied(p), slices.Clone(part)
	switch c.Kind {
	case api.Late:
		if len(p.Class) > 0 {
			q.Class = append(q.Class, c.N)
		}
		q.Guests, x = append(q.Guests, c.Guest), append(x, -1)
	case api.Cancel:
		q.Guests, q.Class, q.Ties, q.Rules, x = nil, nil, nil, nil, nil
		for i, g := range p.Guests {
			if g.Name == c.A {
				continue
			}
			q.Guests, x = append(q.Guests, g), append(x, part[i])
			if len(p.Class) > 0 {
				q.Class = append(q.Class, p.Class[i])
			}
		}
		for _, s := range p.Ties {
			if s.A != c.A && s.B != c.A {
				q.Ties = append(q.Ties, s)
			}
		}
		personal := []api.RuleKind{api.Apart, api.Beside, api.Across, api.Near, api.Together, api.At, api.Seat, api.Reach}
		for _, s := range p.Rules {
			if !slices.Contains(personal, s.Kind) || s.A != c.A && s.B != c.A {
				q.Rules = append(q.Rules, s)
			}
		}
	case api.Quarrel:
		feud := api.Tie{A: min(c.A, c.B), B: max(c.A, c.B), Kind: api.Feud}
		q.Ties = slices.DeleteFunc(q.Ties, func(s api.Tie) bool { return s.A == feud.A && s.B == feud.B })
		q.Ties = append(q.Ties, feud)
		slices.SortFunc(q.Ties, func(s, t api.Tie) int { return cmp.Or(strings.Compare(s.A, t.A), strings.Compare(s.B, t.B)) })
		q.Rules = append(q.Rules, api.Rule{Kind: api.Apart, A: c.A, B: c.B, N: 2})
	case api.Close:
		q.Rules = append(q.Rules, api.Rule{Kind: api.Limit, Table: c.Table, N: c.N})
	default:
		q.Rules = append(q.Rules, c.Rule)
	}
	return q, x
}

// repairs returns all repairs of a partial plan, in order, by going through all plans.
func repairs(t *testing.T, p api.Problem, part []int) []api.Repair {
	t.Helper()
	j, _, e := rule.New(p)
	x, f := plan.Unrank(p, 0)
	if e != api.OK || f != api.OK {
		t.Fatalf("%v: %d, %d", p, e, f)
	}
	var list []api.Repair
	for ok := true; ok; x, ok = plan.Next(p, x) {
		if j.Right(x) {
			list = append(list, api.Repair{Problem: p, Plan: x, Moved: moved(part, x), Cost: j.Cost(x)})
		}
	}
	slices.SortStableFunc(list, func(a, b api.Repair) int { return cmp.Or(cmp.Compare(a.Moved, b.Moved), cmp.Compare(a.Cost, b.Cost)) })
	return list
}

// moved returns how many guests a plan moves.
func moved(part, x []int) int {
	n := 0
	for g, seat := range part {
		if seat != -1 && seat != x[g] {
			n++
		}
	}
	return n
}

// tries returns the tries, by the formula of the chapter; MaxWork + 1 if they are more than MaxWork.
func tries(p api.Problem, part []int, most int) int {
	absent := 0
	for _, seat := range part {
		if seat == -1 {
			absent++
		}
	}
	seated, free := len(part)-absent, hall.Count(p.Tables)-len(part)+absent
	sum := new(big.Int)
	for k := 0; k <= max(most, 0) && k <= seated; k++ {
		sets := new(big.Int).Binomial(int64(seated), int64(k))
		// The product of no numbers is 1.
		seats := new(big.Int).MulRange(int64(free-absent+1), int64(free+k))
		sum.Add(sum, sets.Mul(sets, seats))
	}
	if sum.Cmp(big.NewInt(20000)) > 0 {
		return 20001
	}
	return int(sum.Int64())
}

// copied returns a problem that shares no memory with another one.
func copied(p api.Problem) api.Problem {
	q := api.Problem{Ties: slices.Clone(p.Ties), Class: slices.Clone(p.Class), Rules: slices.Clone(p.Rules), Tables: slices.Clone(p.Tables), Guests: slices.Clone(p.Guests)}
	for i := range q.Tables {
		q.Tables[i].Open = slices.Clone(q.Tables[i].Open)
	}
	for i := range q.Guests {
		q.Guests[i].Tongues = slices.Clone(q.Guests[i].Tongues)
	}
	return q
}

// show returns a text of values in which a nil list and an empty list are the same.
func show(values ...any) string { return fmt.Sprintf("%+v", values) }

// nothing reports whether values are zero values, as they are beside an error.
func nothing(values ...any) bool {
	return !slices.ContainsFunc(values, func(x any) bool {
		v := reflect.ValueOf(x)
		return !v.IsZero() && (v.Kind() != reflect.Slice || v.Len() > 0)
	})
}
