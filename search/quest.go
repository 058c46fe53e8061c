package search

import (
	"iter"
	"slices"

	"trestle/api"
	"trestle/hall"
	"trestle/plan"
	"trestle/rule"
)

// quest is a problem that is searched, with its judge.
type quest struct {
	*rule.Judge
	hard   []int // its hard rules
	guests int
	tables []table
	at     []int // the table of each seat
}

// table is what is known of a table that is searched. Asked once, it need not be found out at each step.
type table struct {
	first int // its first seat
	group [][]int
}

// questOf returns a problem as it is searched.
func questOf(p api.Problem) (*quest, api.Errno) {
	j, _, e := rule.New(p)
	if e != api.OK {
		return nil, e
	}
	q := &quest{Judge: j, hard: rule.Hard(p), guests: len(p.Guests)}
	for t := range p.Tables {
		q.tables = append(q.tables, table{hall.First(p.Tables, t), plan.Group(p, t)})
		q.at = append(q.at, slices.Repeat([]int{t}, hall.Seats(p.Tables[t]))...)
	}
	return q, api.OK
}

// smallQuestOf returns a problem, as it is searched, whose plans are few enough to go through all of them.
func smallQuestOf(p api.Problem) (*quest, api.Errno) {
	if e := checkSmall(p); e != api.OK {
		return nil, e
	}
	return questOf(p)
}

// checkSmall reports whether a problem is valid, and its plans are few enough to go through all of them.
func checkSmall(p api.Problem) api.Errno {
	if _, e := rule.Check(p); e != api.OK {
		return e
	}
	if _, ok := plan.Work(p); !ok {
		return api.ErrLarge
	}
	return api.OK
}

// isSmall reports whether the plans that extend a partial plan are few enough to go through all of them.
func (q *quest) isSmall(part []int) bool {
	free, absent := len(q.at), 0
	for _, seat := range part {
		if seat == -1 {
			absent++
		} else {
			free--
		}
	}
	work := 1
	for k := range absent {
		work *= free - k
		if work > api.MaxWork {
			return false
		}
	}
	return true
}

// nobody returns the partial plan in which nobody is seated.
func (q *quest) nobody() []int { return slices.Repeat([]int{-1}, q.guests) }

// free yields the seats that are free in a partial plan, in increasing order. A guest may sit down on each of them as it comes.
func (q *quest) free(part []int) iter.Seq[int] {
	return func(yield func(int) bool) {
	seats:
		for seat := range q.at {
			for _, taken := range part {
				if taken == seat {
					continue seats
				}
			}
			if !yield(seat) {
				return
			}
		}
	}
}

// isDear reports whether the floor of a partial plan is at least a bound. For a bound below 0 no plan is too expensive.
func (q *quest) isDear(part []int, bound int) bool { return bound >= 0 && q.Floor(part) >= bound }

// turned returns the first element of the group of the table at which a guest sits that turns as turns says it.
func (q *quest) turned(part []int, g int) (int, bool) {
	for k := range q.tableOf(part[g]).group {
		if q.turns(part, g, k) {
			return k, true
		}
	}
	return 0, false
}

// turns reports whether element k of the group of the table at which a guest sits takes the guest to an earlier seat and leaves
// all others where they are. Then the plans with the guest on that earlier seat are the same up to turning.
func (q *quest) turns(part []int, g, k int) bool {
	t := q.tableOf(part[g])
	return k >= 0 && k < len(t.group) && t.image(k, part[g]) < part[g] && t.keeps(part, g, k)
}

// orbit returns how many images a plan has.
func (q *quest) orbit(part []int) int {
	n := 1
	for _, t := range q.tables {
		fixed := 0
		for k := range t.group {
			if t.keeps(part, -1, k) {
				fixed++
			}
		}
		// Every image comes from equally many elements.
		n *= len(t.group) / fixed
	}
	return n
}

// images returns the seats to which the group takes a seat.
func (q *quest) images(seat int) []int {
	t := q.tableOf(seat)
	var list []int
	for k := range t.group {
		list = append(list, t.image(k, seat))
	}
	return list
}

// tableOf returns the table of a seat.
func (q *quest) tableOf(seat int) table { return q.tables[q.at[seat]] }

// image returns the seat to which element k of the group takes a seat. It takes no other table's seat elsewhere, nor -1.
func (t table) image(k, seat int) int {
	turn := t.group[k]
	if seat < t.first || seat >= t.first+len(turn) {
		return seat
	}
	return t.first + turn[seat-t.first]
}

// keeps reports whether element k of the group leaves all guests but one where they are; all of them if that one is -1.
func (t table) keeps(part []int, but, k int) bool {
	for g, seat := range part {
		if g != but && t.image(k, seat) != seat {
			return false
		}
	}
	return true
}
