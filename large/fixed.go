package large

import "trestle/api"

// Fixed returns the fixed faults of each rule in an assignment.
func Fixed(p api.Problem, tables []int) []int {
	if !Assigned(p, tables) {
		return nil
	}
	l := layout{p, map[string]string{}}
	for g, t := range tables {
		l.at[p.Guests[g].Name] = p.Tables[t].Name
	}
	list := make([]int, len(p.Rules))
	for i, r := range p.Rules {
		list[i] = l.fixed(r)
	}
	return list
}

// layout is a valid problem with an assignment of it.
type layout struct {
	api.Problem
	at map[string]string // the table of each guest, by their names
}

// fixed returns the fixed faults of a rule.
func (l layout) fixed(r api.Rule) int {
	switch r.Kind {
	case api.Beside, api.Across, api.Near, api.Together:
		if l.at[r.A] != l.at[r.B] {
			return 1
		}
	case api.At, api.Seat:
		if l.at[r.A] != r.Table {
			return 1
		}
	case api.Kitchen:
		return count(l.Guests, func(g api.Guest) bool { return g.Diet == r.A && l.at[g.Name] != r.Table })
	case api.Company:
		return count(l.Ties, func(t api.Tie) bool { return t.Kind == api.Friend && l.at[t.A] != l.at[t.B] && l.asks(r, t) })
	}
	return 0
}

// asks reports whether one of two guests who are tied is at a table asked by a rule.
func (l layout) asks(r api.Rule, t api.Tie) bool {
	return r.Table == "" || r.Table == l.at[t.A] || r.Table == l.at[t.B]
}

// count returns how many values of a list are as a function asks.
func count[V any](list []V, asked func(v V) bool) int {
	n := 0
	for _, v := range list {
		if asked(v) {
			n++
		}
	}
	return n
}
