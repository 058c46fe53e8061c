package office

import (
	"slices"
	"strconv"
	"strings"

	"trestle/api"
	"trestle/court"
	"trestle/guest"
	"trestle/hall"
	"trestle/rule"
)

// content is what an office keeps, but for its log. Its problem is always valid.
type content struct {
	tables  []api.Table
	roll    api.Roll
	clauses []api.Clause
	rules   []api.Rule
	hasPlan bool
	plan    []int // a partial plan
	moves   int   // how many guests a repair may move
}

// copied returns a copy whose rules and plan may be changed. All other lists are replaced by new ones, never changed.
func (c content) copied() content {
	c.rules, c.plan = slices.Clone(c.rules), slices.Clone(c.plan)
	return c
}

// problem returns the problem, which shares its memory with the content.
func (c content) problem() api.Problem {
	p := api.Problem{Tables: c.tables, Guests: c.roll.Guests, Ties: c.roll.Ties, Rules: c.rules}
	if len(c.clauses) > 0 {
		p.Class = court.Class(c.clauses, p.Guests)
	}
	return p
}

// judge returns a judge of the problem.
func (c content) judge() *rule.Judge {
	j, _, e := rule.New(c.problem())
	check(e)
	return j
}

// book returns a guest book with the roll.
func (c content) book() *guest.Book {
	b, _, e := guest.Load(c.roll)
	check(e)
	return b
}

// guestNamed returns the guest with a name.
func (c content) guestNamed(name string) int {
	g := slices.IndexFunc(c.roll.Guests, func(g api.Guest) bool { return g.Name == name })
	expect(g >= 0, api.ErrUnknown)
	return g
}

// tableNamed returns the table with a name.
func (c content) tableNamed(name string) int {
	t, ok := hall.Find(c.tables, name)
	expect(ok, api.ErrUnknown)
	return t
}

// seatOf returns the seat of a guest, who has to be seated.
func (c content) seatOf(g int) int {
	expect(c.plan[g] >= 0, api.ErrMiss)
	return c.plan[g]
}

// seatWords tells of a seat: its table's name, and its number there.
func (c content) seatWords(seat int) string {
	t, k, _ := hall.Where(c.tables, seat)
	return c.tables[t].Name + " " + strconv.Itoa(k)
}

// seated returns how many guests are seated.
func (c content) seated() int {
	n := 0
	for _, seat := range c.plan {
		if seat >= 0 {
			n++
		}
	}
	return n
}

// names returns the names of some guests.
func (c content) names(guests []int) []string {
	var names []string
	for _, g := range guests {
		names = append(names, c.roll.Guests[g].Name)
	}
	return names
}

// text returns the lines that make an office with this content.
func (c content) text() string {
	var s strings.Builder
	s.WriteString(hall.Format(c.tables) + guest.Format(c.roll))
	for line := range strings.Lines(court.Format(c.clauses)) {
		s.WriteString("clause " + line)
	}
	for line := range strings.Lines(rule.Format(c.rules)) {
		s.WriteString("rule " + line)
	}
	s.WriteString("moves " + strconv.Itoa(c.moves) + "\n")
	if !c.hasPlan {
		return s.String()
	}
	s.WriteString("begin\n")
	for g, seat := range c.plan {
		if seat >= 0 {
			s.WriteString("place " + c.roll.Guests[g].Name + " " + c.seatWords(seat) + "\n")
		}
	}
	return s.String()
}
