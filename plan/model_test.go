package plan_test

import (
	"math"
	"math/rand"
	"slices"
	"strings"
	"testing"

	"trestle/api"
	"trestle/hall"
)

// dinner is the problem of the chapter's examples, with some rules.
func dinner(rules ...api.Rule) api.Problem {
	return api.Problem{
		Tables: []api.Table{{Name: "sun", Shape: api.Round, A: 4}, {Name: "bar", Shape: api.Row, A: 2}},
		Guests: []api.Guest{{Name: "ann"}, {Name: "bob"}, {Name: "cid"}},
		Rules:  rules,
	}
}

// crowd returns n guests.
func crowd(n int) []api.Guest {
	var list []api.Guest
	for i := range n {
		list = append(list, api.Guest{Name: strings.Repeat(string(rune('a'+i/12)), 1+i%12)})
	}
	return list
}

// feast returns a problem with n guests and tables of some kinds, so many of each.
func feast(guests int, tables ...api.Table) api.Problem {
	p := api.Problem{Tables: tables, Guests: crowd(guests)}
	for i := range p.Tables {
		p.Tables[i].Name = "t" + string(rune('a'+i))
	}
	return p
}

// fail is a problem that is not valid, with the error of rule.Check.
type fail struct {
	p api.Problem
	e api.Errno
}

// fails returns problems that are not valid, all with three guests but one, and with the two tables of dinner but one.
func fails() []fail {
	broken, crowded, classes := dinner(), dinner(), dinner()
	broken.Tables[1].B = 7
	crowded.Guests = crowd(7)
	classes.Class = []int{0, 1}
	doubled := dinner()
	doubled.Guests[2] = doubled.Guests[0]
	return []fail{
		{broken, api.ErrShape}, {crowded, api.ErrRoom}, {classes, api.ErrClass}, {doubled, api.ErrTwice},
		{dinner(api.Rule{}), api.ErrKind}, {dinner(api.Rule{Kind: api.Peace}, api.Rule{Kind: api.Reach, A: "dan"}), api.ErrUnknown},
		{dinner(slices.Repeat([]api.Rule{{Kind: api.Mix}}, 65)...), api.ErrMany},
	}
}

// pick returns one of some values.
func pick[T any](r *rand.Rand, values ...T) T { return values[r.Intn(len(values))] }

// anyTable returns a valid table with at most six seats.
func anyTable(r *rand.Rand, name string) api.Table {
	t := pick(r,
		api.Table{Shape: api.Round, A: 1 + r.Intn(6)}, api.Table{Shape: api.Round, A: 3 + r.Intn(2)},
		api.Table{Shape: api.Long, A: 1 + r.Intn(2), B: r.Intn(3)}, api.Table{Shape: api.Horseshoe, A: 1 + r.Intn(2), B: 1 + r.Intn(2)},
		api.Table{Shape: api.Row, A: 1 + r.Intn(4)})
	t.Name = name
	if r.Intn(4) == 0 {
		t.Open = []int{r.Intn(hall.Seats(t))}
	}
	return t
}

// anyProblem returns a valid problem with at most so many guests.
func anyProblem(r *rand.Rand, guests int) api.Problem {
	var p api.Problem
	for _, name := range []string{"top", "sun", "bar"}[:r.Intn(4)] {
		p.Tables = append(p.Tables, anyTable(r, name))
	}
	p.Guests = crowd(r.Intn(min(guests, hall.Count(p.Tables)) + 1))
	for i := range p.Guests {
		p.Guests[i].Side, p.Guests[i].Access, p.Guests[i].Host = r.Intn(3), r.Intn(2) == 0, r.Intn(3) == 0
	}
	if len(p.Guests) == 0 {
		return p
	}
	for range r.Intn(3) {
		some := p.Tables[r.Intn(len(p.Tables))]
		who := p.Guests[r.Intn(len(p.Guests))].Name
		x := pick(r,
			api.Rule{Kind: api.Seat, A: who, Table: some.Name, N: r.Intn(hall.Seats(some))}, api.Rule{Kind: api.At, A: who, Table: some.Name},
			api.Rule{Kind: api.Honour, Table: pick(r, "", some.Name)}, api.Rule{Kind: api.Alternate}, api.Rule{Kind: api.Reach},
			api.Rule{Kind: api.HostAt}, api.Rule{Kind: api.Limit, Table: some.Name, N: 1})
		x.Weight = pick(r, 0, 0, 5)
		p.Rules = append(p.Rules, x)
	}
	for range p.Guests {
		p.Class = append(p.Class, r.Intn(2))
	}
	return p
}

// anyPart returns a partial plan; a plan if all is true.
func anyPart(r *rand.Rand, p api.Problem, all bool) []int {
	part := r.Perm(hall.Count(p.Tables))[:len(p.Guests)]
	for g := range part {
		if !all && r.Intn(3) == 0 {
			part[g] = -1
		}
	}
	return part
}

// groupOf returns the group of a table by its definition.
func groupOf(p api.Problem, t int) [][]int {
	name := p.Tables[t].Name
	var list [][]int
	for _, turn := range hall.Turns(p.Tables[t]) {
		moves := func(x api.Rule) bool {
			honour := hall.Honour(p.Tables, t)[0] - hall.First(p.Tables, t)
			return x.Kind == api.Seat && x.Table == name && turn[x.N] != x.N ||
				x.Kind == api.Honour && (x.Table == name || x.Table == "") && turn[honour] != honour
		}
		if !slices.ContainsFunc(p.Rules, moves) {
			list = append(list, turn)
		}
	}
	return list
}

// wholeGroup returns the group of the problem: for each of its elements where each seat of the hall goes.
func wholeGroup(p api.Problem) [][]int {
	all := [][]int{{}}
	for t := range p.Tables {
		var longer [][]int
		for _, before := range all {
			for _, turn := range groupOf(p, t) {
				x := slices.Clone(before)
				for _, k := range turn {
					x = append(x, len(before)+k)
				}
				longer = append(longer, x)
			}
		}
		all = longer
	}
	return all
}

// imageOf returns the image of a partial plan under an element of the group of the problem.
func imageOf(element, part []int) []int {
	var l []int
	for _, seat := range part {
		if seat >= 0 {
			seat = element[seat]
		}
		l = append(l, seat)
	}
	return l
}

// imagesOf returns the images of a partial plan under the elements of a group, rising, each as often as there are elements that
// give it.
func imagesOf(group [][]int, part []int) [][]int {
	var l [][]int
	for _, x := range group {
		l = append(l, imageOf(x, part))
	}
	slices.SortFunc(l, slices.Compare[[]int])
	return l
}

// plansOf returns all plans, in their order.
func plansOf(p api.Problem) [][]int {
	all := [][]int{{}}
	for range p.Guests {
		var longer [][]int
		for _, before := range all {
			for seat := range hall.Count(p.Tables) {
				if !slices.Contains(before, seat) {
					longer = append(longer, append(slices.Clone(before), seat))
				}
			}
		}
		all = longer
	}
	return all
}

// strange returns numbers that are no seats or guests of a small problem, and some that may be.
func strange() []int {
	return []int{math.MinInt, math.MinInt + 1, -3, -2, -1, 0, 1, 2, 3, 4, 5, 6, 7, 24, 63, 64, 384, math.MaxInt - 1, math.MaxInt}
}

// want fails a test unless an error is the one that is asked for.
func want(t *testing.T, what string, got, asked api.Errno) {
	t.Helper()
	if got != asked {
		t.Errorf("%s: error %d, not %d", what, got, asked)
	}
}
