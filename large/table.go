package large

import (
	"slices"

	"trestle/api"
	"trestle/hall"
	"trestle/plan"
	"trestle/rule"
	"trestle/search"
)

// TablesOf returns the assignment of a plan.
func TablesOf(p api.Problem, x []int) []int {
	if _, e := plan.Check(p, x); e != api.OK {
		return nil
	}
	tables := make([]int, len(x))
	for g, seat := range x {
		tables[g], _, _ = hall.Where(p.Tables, seat)
	}
	return tables
}

// Assigned reports whether tables is an assignment.
func Assigned(p api.Problem, tables []int) bool { return checkAssigned(p, tables) == api.OK }

// checkAssigned checks a problem, and an assignment of it.
func checkAssigned(p api.Problem, tables []int) api.Errno {
	if _, e := rule.Check(p); e != api.OK {
		return e
	}
	if len(tables) != len(p.Guests) {
		return api.ErrArg
	}
	room := make([]int, len(p.Tables))
	for t, table := range p.Tables {
		room[t] = hall.Seats(table)
	}
	for _, t := range tables {
		if t < 0 || t >= len(room) || room[t] == 0 {
			return api.ErrArg
		}
		room[t]--
	}
	return api.OK
}

// Split returns the part of a table in an assignment, with its guests and rules.
func Split(p api.Problem, tables []int, t int) (part api.Problem, guests, rules []int, e api.Errno) {
	if e := checkAssigned(p, tables); e != api.OK {
		return api.Problem{}, nil, nil, e
	}
	if t < 0 || t >= len(p.Tables) {
		return api.Problem{}, nil, nil, api.ErrArg
	}
	s := shareOf(p, tables, t)
	return s.Problem, s.guests, s.rules, api.OK
}

// Arrange returns the best plan with an assignment.
func Arrange(p api.Problem, tables []int) (api.Ranked, api.Errno) {
	if e := checkAssigned(p, tables); e != api.OK {
		return api.Ranked{}, e
	}
	var shares []share
	for t := range p.Tables {
		shares = append(shares, shareOf(p, tables, t))
	}
	if slices.ContainsFunc(shares, share.isLarge) {
		return api.Ranked{}, api.ErrLarge
	}
	best := api.Ranked{Plan: make([]int, len(tables))}
	for i, n := range Fixed(p, tables) {
		weight := p.Rules[i].Weight
		if weight == 0 && n > 0 {
			return api.Ranked{}, api.ErrNone
		}
		best.Cost += weight * n
	}
	// No table's faults depend on who sits where at another one. So the best plan has the best one of each table.
	for t, s := range shares {
		r, e := search.Best(s.Problem)
		if e != api.OK {
			return api.Ranked{}, e
		}
		for k, g := range s.guests {
			best.Plan[g] = hall.First(p.Tables, t) + r.Plan[k]
		}
		best.Cost += r.Cost
	}
	return best, api.OK
}

// share is the part of a table, with those guests and rules of the whole problem that it has.
type share struct {
	api.Problem
	guests, rules []int
}

// shareOf returns the part of a table of a valid problem, in an assignment.
func shareOf(p api.Problem, tables []int, t int) share {
	var s share
	table := p.Tables[t]
	table.Open = slices.Clone(table.Open)
	s.Tables = []api.Table{table}
	for g, at := range tables {
		if at == t {
			s.seat(p, g)
		}
	}
	for _, tie := range p.Ties {
		if s.has(tie.A) && s.has(tie.B) {
			s.Ties = append(s.Ties, tie)
		}
	}
	for i, r := range p.Rules {
		if left, is := s.left(r); is {
			s.Rules = append(s.Rules, left)
			s.rules = append(s.rules, i)
		}
	}
	return s
}

// seat adds a guest of the whole problem.
func (s *share) seat(p api.Problem, g int) {
	one := p.Guests[g]
	one.Tongues = slices.Clone(one.Tongues)
	s.Guests = append(s.Guests, one)
	s.guests = append(s.guests, g)
	if len(p.Class) > 0 {
		s.Class = append(s.Class, p.Class[g])
	}
}

// has reports whether a guest is at the table. The empty name, where a rule names no guest, stands for nobody who is elsewhere.
func (s *share) has(name string) bool {
	return name == "" || slices.ContainsFunc(s.Guests, func(g api.Guest) bool { return g.Name == name })
}

// left returns what is left at the table of a rule, if anything is.
func (s *share) left(r api.Rule) (api.Rule, bool) {
	name := s.Tables[0].Name
	switch r.Kind {
	case api.At, api.Kitchen:
		return r, false
	case api.Seat:
		if r.Table != name {
			return r, false
		}
		fallthrough
	case api.Apart, api.Beside, api.Across, api.Near, api.Together, api.Reach:
		return r, s.has(r.A) && s.has(r.B)
	default:
		asked := r.Table == "" || r.Table == name
		r.Table = name
		return r, asked
	}
}

// isLarge reports whether the part has too many plans to go through all of them.
func (s share) isLarge() bool {
	_, ok := plan.Work(s.Problem)
	return !ok
}
