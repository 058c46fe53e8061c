package repair

import (
	"slices"

	"trestle/api"
	"trestle/guest"
	"trestle/hall"
	"trestle/rule"
)

// kind tells what a change of a kind asks of a seating and does to it, and how its line is read and written.
type kind struct {
	word  string
	asks  func(s seating, c api.Change) api.Errno
	does  func(s *seating, c api.Change)
	read  func(words []string) (api.Change, api.Errno) // the words behind the first one
	write func(c api.Change) string
}

// kinds returns all kinds of changes, at their numbers. No kind has the number 0.
func kinds() [api.Demand + 1]kind {
	return [...]kind{
		api.Late:    {"late", seating.mayCome, (*seating).come, readLate, writeLate},
		api.Cancel:  {"cancel", seating.mayLeave, (*seating).leave, readCancel, writeCancel},
		api.Quarrel: {"quarrel", seating.mayQuarrel, (*seating).quarrel, readQuarrel, writeQuarrel},
		api.Close:   {"close", seating.mayClose, (*seating).closeTable, readClose, writeClose},
		api.Demand:  {"demand", seating.mayDemand, (*seating).demand, readDemand, writeDemand},
	}
}

// kindOf returns the kind of a change, if there is such a kind.
func kindOf(c api.Change) (kind, bool) {
	if c.Kind < api.Late || c.Kind > api.Demand {
		return kind{}, false
	}
	return kinds()[c.Kind], true
}

// seating is a valid problem, with a partial plan of it.
type seating struct {
	api.Problem
	part []int
}

func (s seating) mayCome(c api.Change) api.Errno {
	if e := s.book().Add(c.Guest); e != api.OK {
		return e
	}
	switch {
	case len(s.Guests) == hall.Count(s.Tables):
		return api.ErrRoom
	case c.N < 0 || c.N >= api.MaxGuests || c.N != 0 && len(s.Class) == 0:
		return api.ErrClass
	}
	return api.OK
}

func (s seating) mayLeave(c api.Change) api.Errno {
	if s.find(c.A) < 0 {
		return api.ErrUnknown
	}
	return api.OK
}

func (s seating) mayQuarrel(c api.Change) api.Errno {
	switch {
	case s.find(c.A) < 0 || s.find(c.B) < 0:
		return api.ErrUnknown
	case c.A == c.B:
		return api.ErrTwice
	}
	if _, tied := s.book().Tied(c.A, c.B); !tied && len(s.Ties) == api.MaxTies {
		return api.ErrMany
	}
	return s.mayAdd()
}

func (s seating) mayClose(c api.Change) api.Errno {
	// A rule may leave its table out, but a change may not.
	if _, ok := hall.Find(s.Tables, c.Table); !ok {
		return api.ErrUnknown
	}
	return s.mayDemand(api.Change{Rule: limitOf(c)})
}

func (s seating) mayDemand(c api.Change) api.Errno {
	if e := rule.CheckRule(s.Problem, c.Rule); e != api.OK {
		return e
	}
	return s.mayAdd()
}

// mayAdd reports whether there may be one more rule.
func (s seating) mayAdd() api.Errno {
	if len(s.Rules) == api.MaxRules {
		return api.ErrMany
	}
	return api.OK
}

func (s *seating) come(c api.Change) {
	c.Guest.Tongues = slices.Clone(c.Guest.Tongues)
	s.Guests = append(s.Guests, c.Guest)
	if len(s.Class) > 0 {
		s.Class = append(s.Class, c.N)
	}
	s.part = append(s.part, -1)
}

func (s *seating) leave(c api.Change) {
	g := s.find(c.A)
	s.Guests = slices.Delete(s.Guests, g, g+1)
	if len(s.Class) > 0 {
		s.Class = slices.Delete(s.Class, g, g+1)
	}
	s.part = slices.Delete(s.part, g, g+1)
	s.Ties = slices.DeleteFunc(s.Ties, func(t api.Tie) bool { return t.A == c.A || t.B == c.A })
	s.Rules = slices.DeleteFunc(s.Rules, func(r api.Rule) bool { return namesGuest(r, c.A) })
}

func (s *seating) quarrel(c api.Change) {
	book := s.book()
	book.Untie(c.A, c.B)
	book.Tie(c.A, c.B, api.Feud)
	s.Ties = book.Roll().Ties
	s.add(api.Rule{Kind: api.Apart, A: c.A, B: c.B, N: 2})
}

func (s *seating) closeTable(c api.Change) { s.add(limitOf(c)) }

func (s *seating) demand(c api.Change) { s.add(c.Rule) }

// add adds a rule behind all others.
func (s *seating) add(r api.Rule) { s.Rules = append(s.Rules, r) }

// book returns a guest book with the guests and ties.
func (s seating) book() *guest.Book {
	book, _, _ := guest.Load(api.Roll{Guests: s.Guests, Ties: s.Ties})
	return book
}

// find returns the index of the guest with a name, or -1.
func (s seating) find(name string) int {
	return slices.IndexFunc(s.Guests, func(g api.Guest) bool { return g.Name == name })
}

// limitOf returns the rule that closes a table.
func limitOf(c api.Change) api.Rule { return api.Rule{Kind: api.Limit, Table: c.Table, N: c.N} }

// namesGuest reports whether a rule names a guest. A kitchen's rule may have the same name, but that is a diet.
func namesGuest(r api.Rule, name string) bool {
	return r.Kind != api.Kitchen && (r.A == name || r.B == name)
}

// copyOf returns a valid problem that shares no memory with another one.
func copyOf(p api.Problem) api.Problem {
	return rule.Only(p, append(rule.Hard(p), rule.Weighed(p)...))
}
