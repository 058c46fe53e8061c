package office

import (
	"slices"
	"strconv"

	"trestle/api"
	"trestle/hall"
)

// Reason says what another seat of a guest would mean.
type Reason struct {
	Seat, Guest int // the seat, and who sits there now, or -1
	Rule        int // the first hard rule that would have more faults, or -1
	More        int // by how much the plan would cost more
}

// Why says why a guest sits where it sits.
func (o *Office) Why(name string) ([]Reason, api.Errno) {
	if !o.isOffice() {
		return nil, api.ErrNil
	}
	var l []Reason
	e := caught(func() { l = o.reasons(name) })
	return l, e
}

func (t *task) why() {
	var parts []string
	for _, r := range t.reasons(t.words[0]) {
		parts = append(parts, t.seatWords(r.Seat)+" "+r.words())
	}
	t.sayParts("/", parts...)
}

// words tells of a reason, but for its seat.
func (r Reason) words() string {
	switch {
	case r.Rule >= 0:
		return "hard " + strconv.Itoa(r.Rule)
	case r.More > 0:
		return "more " + strconv.Itoa(r.More)
	case r.More < 0:
		return "less " + strconv.Itoa(-r.More)
	}
	return "same"
}

// reasons returns what each other seat of a guest would mean.
func (c content) reasons(name string) []Reason {
	expect(c.hasPlan, api.ErrNoPlan)
	g := c.guestNamed(name)
	own := c.seatOf(g)
	j := c.judge()
	now := j.Score(c.plan)
	var l []Reason
	for seat := range hall.Count(c.tables) {
		if seat == own {
			continue
		}
		other := slices.Clone(c.plan)
		sitter := slices.Index(c.plan, seat)
		if sitter >= 0 {
			other[sitter] = own
		}
		other[g] = seat
		first, more := c.compare(now, j.Score(other))
		l = append(l, Reason{Seat: seat, Guest: sitter, Rule: first, More: more})
	}
	return l
}

// compare returns the first hard rule that has more faults in the second one of two scores, or -1, and by how much that one costs more.
func (c content) compare(one, other []int) (first, more int) {
	first = -1
	for i, r := range c.rules {
		n := other[i] - one[i]
		switch {
		case r.Weight > 0:
			more += r.Weight * n
		case n > 0 && first < 0:
			first = i
		}
	}
	return first, more
}
