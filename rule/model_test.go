package rule_test

import (
	"math/rand"
	"slices"
	"strings"
	"testing"

	"trestle/api"
	"trestle/hall"
	"trestle/rule"
)

// wrongNames are texts that are no names.
var wrongNames = []string{"abcdefghijklm", "Ann", "anN", "ann1", "an-n", "an`", "an{", "äan", "\xff", "\x00", "ann\r", strings.Repeat("a", 60000)}

// names returns n names, of 1 to 12 letters.
func names(n int) []string {
	var list []string
	for i := range n {
		list = append(list, strings.Repeat(string(rune('a'+i/12)), 1+i%12))
	}
	return list
}

// crowd returns n guests without anything but their names.
func crowd(n int) []api.Guest {
	var list []api.Guest
	for _, name := range names(n) {
		list = append(list, api.Guest{Name: name})
	}
	return list
}

// dinner is the problem of the chapter's examples.
func dinner(rules ...api.Rule) api.Problem {
	return api.Problem{
		Tables: []api.Table{{Name: "r", Shape: api.Round, A: 6, Open: []int{1}}, {Name: "w", Shape: api.Row, A: 2}},
		Guests: []api.Guest{
			{Name: "anna", Side: 1, Host: true, Tongues: []string{"latin"}}, {Name: "boris", Side: 1, Tongues: []string{"latin"}},
			{Name: "carl", Side: 2, Access: true, Tongues: []string{"latin"}}, {Name: "dora"},
		},
		Ties:  []api.Tie{{A: "anna", B: "boris", Kind: api.Feud}},
		Class: []int{0, 1, 1, 2},
		Rules: rules,
	}
}

// pick returns one of some values.
func pick[T any](r *rand.Rand, values ...T) T { return values[r.Intn(len(values))] }

// anyTable returns a valid table.
func anyTable(r *rand.Rand, name string) api.Table {
	t := pick(r,
		api.Table{Shape: api.Round, A: 1 + r.Intn(6)}, api.Table{Shape: api.Long, A: 1 + r.Intn(3), B: r.Intn(3)},
		api.Table{Shape: api.Horseshoe, A: 1 + r.Intn(3), B: 1 + r.Intn(2)}, api.Table{Shape: api.Row, A: 1 + r.Intn(5), B: r.Intn(2)})
	t.Name = name
	for k := range hall.Seats(t) {
		if r.Intn(2) == 0 {
			t.Open = append(t.Open, k)
		}
	}
	return t
}

// anyProblem returns a valid problem, with a rule of each kind and some more.
func anyProblem(r *rand.Rand) api.Problem {
	var p api.Problem
	for _, name := range []string{"top", "sun", "bar"}[:1+r.Intn(3)] {
		p.Tables = append(p.Tables, anyTable(r, name))
	}
	for _, i := range r.Perm(7)[:min(2+r.Intn(5), hall.Count(p.Tables))] {
		g := api.Guest{Name: names(7)[i], Court: pick(r, "", "spain", "france"), Side: r.Intn(3), Diet: pick(r, "", "vegan", "halal"), Host: r.Intn(3) == 0, Access: r.Intn(3) == 0}
		for _, tongue := range []string{"dutch", "latin", "welsh"} {
			if r.Intn(3) == 0 {
				g.Tongues = append(g.Tongues, tongue)
			}
		}
		p.Guests = append(p.Guests, g)
	}
	sorted := slices.SortedFunc(slices.Values(p.Guests), func(g, h api.Guest) int { return strings.Compare(g.Name, h.Name) })
	for i, g := range sorted {
		for _, h := range sorted[i+1:] {
			if k := r.Intn(4); k > 0 && k < 3 {
				p.Ties = append(p.Ties, api.Tie{A: g.Name, B: h.Name, Kind: api.TieKind(k)})
			}
		}
	}
	if r.Intn(4) > 0 {
		for range p.Guests {
			p.Class = append(p.Class, pick(r, 0, 1, 2, 63))
		}
	}
	for i := range 24 {
		if k := api.RuleKind(1 + i%18); len(p.Guests) > 1 || k != api.Apart && k != api.Beside && k != api.Across && k != api.Near && k != api.Together {
			p.Rules = append(p.Rules, anyRule(r, p, k))
		}
	}
	return p
}

// anyRule returns a valid rule of a kind.
func anyRule(r *rand.Rand, p api.Problem, k api.RuleKind) api.Rule {
	x := api.Rule{Kind: k, Weight: pick(r, 0, 0, 1, 7, 1000)}
	order := r.Perm(len(p.Guests))
	some := p.Tables[r.Intn(len(p.Tables))]
	switch k {
	case api.Apart, api.Beside, api.Across, api.Near, api.Together:
		x.A, x.B = p.Guests[order[0]].Name, p.Guests[order[1]].Name
	case api.At, api.Seat:
		x.A, x.Table = p.Guests[order[0]].Name, some.Name
	case api.Kitchen:
		x.A, x.Table = pick(r, "vegan", "halal", "kosher"), some.Name
	case api.Reach:
		x.A = pick(r, "", p.Guests[order[0]].Name)
	default:
		x.Table = pick(r, "", some.Name)
	}
	switch k {
	case api.Apart, api.Fill, api.Limit:
		x.N = pick(r, 0, 1, 2, 3, 24)
	case api.Near:
		x.N = pick(r, 1, 2, 3, 24)
	case api.Seat:
		x.N = r.Intn(hall.Seats(some))
	}
	return x
}

// anyPart returns a partial plan; a plan if all is true.
func anyPart(r *rand.Rand, p api.Problem, all bool) []int {
	part := r.Perm(hall.Count(p.Tables))[:len(p.Guests)]
	for x := range part {
		if !all && r.Intn(3) == 0 {
			part[x] = -1
		}
	}
	return part
}

// judge returns the judge of a problem that has to be valid.
func judge(t *testing.T, p api.Problem) *rule.Judge {
	t.Helper()
	j, i, e := rule.New(p)
	if j == nil || i != 0 || e != api.OK {
		t.Fatalf("New(%v): %d, %d", p, i, e)
	}
	return j
}

// tableAt returns the name of a seat's table.
func tableAt(p api.Problem, seat int) string {
	t, _, _ := hall.Where(p.Tables, seat)
	return p.Tables[t].Name
}

// tied reports whether a tie of a kind joins two guests.
func tied(p api.Problem, g, h api.Guest, kind api.TieKind) bool {
	return slices.Contains(p.Ties, api.Tie{A: min(g.Name, h.Name), B: max(g.Name, h.Name), Kind: kind})
}

// classOf returns the class of a guest.
func classOf(p api.Problem, x int) int {
	if len(p.Class) == 0 {
		return 0
	}
	return p.Class[x]
}

// faultsOf tells by the table of kinds alone who is to blame for each fault of a rule.
func faultsOf(p api.Problem, part []int, r api.Rule) [][]int {
	var list [][]int
	for x := range p.Guests {
		if part[x] >= 0 && guestFails(p, part, r, x) {
			list = append(list, []int{x})
		}
		for y := range x {
			if part[x] >= 0 && part[y] >= 0 && pairFails(p, part, r, y, x) {
				list = append(list, []int{y, x})
			}
		}
	}
	for _, t := range p.Tables {
		if r.Table == "" || r.Table == t.Name {
			list = append(list, tableFails(p, part, r, t.Name)...)
		}
	}
	return list
}

// guestFails reports whether a seated guest alone is a fault of a rule.
func guestFails(p api.Problem, part []int, r api.Rule, x int) bool {
	g, table := p.Guests[x], tableAt(p, part[x])
	switch r.Kind {
	case api.At:
		return g.Name == r.A && table != r.Table
	case api.Seat:
		_, k, _ := hall.Where(p.Tables, part[x])
		return g.Name == r.A && (table != r.Table || k != r.N)
	case api.Reach:
		return (g.Name == r.A || r.A == "" && g.Access) && !hall.Open(p.Tables, part[x])
	case api.Kitchen:
		return g.Diet == r.A && table != r.Table
	case api.Speak:
		somebody, common := false, false
		for y, h := range p.Guests {
			if part[y] >= 0 && hall.Near(p.Tables, part[x], part[y]) {
				somebody = true
				common = common || slices.ContainsFunc(g.Tongues, func(s string) bool { return slices.Contains(h.Tongues, s) })
			}
		}
		return (r.Table == "" || r.Table == table) && somebody && !common
	}
	return false
}

// pairFails reports whether two seated guests are a fault of a rule.
func pairFails(p api.Problem, part []int, r api.Rule, x, y int) bool {
	g, h, a, b := p.Guests[x], p.Guests[y], part[x], part[y]
	one, other := tableAt(p, a), tableAt(p, b)
	steps, reached := hall.Distance(p.Tables, a, b)
	named := r.A == g.Name && r.B == h.Name || r.A == h.Name && r.B == g.Name
	asked := r.Table == "" || r.Table == one
	switch r.Kind {
	case api.Apart:
		return named && (one == other && r.N == 0 || reached && steps < r.N)
	case api.Beside:
		return named && !hall.Beside(p.Tables, a, b)
	case api.Across:
		return named && !hall.Across(p.Tables, a, b)
	case api.Near:
		return named && !(reached && steps <= r.N)
	case api.Together:
		return named && one != other
	case api.Alternate:
		return asked && hall.Beside(p.Tables, a, b) && g.Side == h.Side && g.Side > 0
	case api.Peace:
		return asked && hall.Near(p.Tables, a, b) && tied(p, g, h, api.Feud)
	case api.Company:
		return (asked || r.Table == other) && !hall.Near(p.Tables, a, b) && tied(p, g, h, api.Friend)
	case api.Honour:
		first, last := a, b
		if classOf(p, x) > classOf(p, y) {
			first, last = b, a
		}
		return asked && one == other && classOf(p, x) != classOf(p, y) && hall.Level(p.Tables, first) > hall.Level(p.Tables, last)
	case api.Mix:
		return asked && hall.Beside(p.Tables, a, b) && g.Court == h.Court && g.Court != ""
	}
	return false
}

// tableFails returns the faults of a rule that a table as a whole has.
func tableFails(p api.Problem, part []int, r api.Rule, table string) [][]int {
	var guests []int
	host := false
	for x, g := range p.Guests {
		if part[x] >= 0 && tableAt(p, part[x]) == table {
			guests = append(guests, x)
			host = host || g.Host
		}
	}
	n := 0
	switch r.Kind {
	case api.HostAt:
		if len(guests) > 0 && !host {
			n = 1
		}
	case api.Fill:
		n = r.N - len(guests)
	case api.Limit:
		n = len(guests) - r.N
	}
	var list [][]int
	for range n {
		list = append(list, guests)
	}
	return list
}

// leastOf returns the certain faults of a rule.
func leastOf(p api.Problem, part []int, r api.Rule) int {
	n, absent, hosts := len(faultsOf(p, part, r)), 0, 0
	for x, g := range p.Guests {
		if part[x] < 0 {
			absent++
			if g.Host {
				hosts++
			}
		}
	}
	switch {
	case r.Kind == api.HostAt:
		return max(n-hosts, 0)
	case r.Kind == api.Fill:
		return max(n-absent, 0)
	case r.Kind == api.Speak && absent > 0:
		return 0
	}
	return n
}

// union returns the union of some lists, increasing.
func union(lists [][]int) []int {
	all := slices.Concat(lists...)
	slices.Sort(all)
	return slices.Compact(all)
}

// copied returns a problem that shares no memory with another one.
func copied(p api.Problem) api.Problem {
	var q api.Problem
	for _, t := range p.Tables {
		t.Open = append([]int(nil), t.Open...)
		q.Tables = append(q.Tables, t)
	}
	for _, g := range p.Guests {
		g.Tongues = append([]string(nil), g.Tongues...)
		q.Guests = append(q.Guests, g)
	}
	q.Ties, q.Class, q.Rules = append(q.Ties, p.Ties...), append(q.Class, p.Class...), append(q.Rules, p.Rules...)
	return q
}

// sameProblem compares two problems; a nil list is an empty list.
func sameProblem(p, q api.Problem) bool {
	sameTable := func(t, u api.Table) bool {
		return t.Name == u.Name && t.Shape == u.Shape && t.A == u.A && t.B == u.B && t.X == u.X && t.Y == u.Y && slices.Equal(t.Open, u.Open)
	}
	sameGuest := func(g, h api.Guest) bool {
		return g.Name == h.Name && g.Rank == h.Rank && g.Court == h.Court && g.Since == h.Since && g.Side == h.Side &&
			g.Diet == h.Diet && g.Host == h.Host && g.Access == h.Access && slices.Equal(g.Tongues, h.Tongues)
	}
	return slices.EqualFunc(p.Tables, q.Tables, sameTable) && slices.EqualFunc(p.Guests, q.Guests, sameGuest) &&
		slices.Equal(p.Ties, q.Ties) && slices.Equal(p.Class, q.Class) && slices.Equal(p.Rules, q.Rules)
}

// spoil overwrites all memory that a problem has.
func spoil(p api.Problem) {
	for i, t := range p.Tables {
		for k := range t.Open {
			t.Open[k] = -7
		}
		p.Tables[i] = api.Table{}
	}
	for i, g := range p.Guests {
		for k := range g.Tongues {
			g.Tongues[k] = "?"
		}
		p.Guests[i] = api.Guest{}
	}
	clear(p.Ties)
	clear(p.Rules)
	for i := range p.Class {
		p.Class[i] = -7
	}
}
