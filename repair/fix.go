package repair

import (
	"cmp"
	"slices"

	"trestle/api"
	"trestle/hall"
	"trestle/plan"
	"trestle/rule"
)

// Fix returns the repair that moves the fewest guests.
func Fix(p api.Problem, part []int, most int) (api.Repair, api.Errno) {
	if _, e := plan.CheckPart(p, part); e != api.OK {
		return api.Repair{}, e
	}
	return fix(p, part, nil, most)
}

// Oust returns the repair that moves the fewest guests and one of them.
func Oust(p api.Problem, part []int, g, most int) (api.Repair, api.Errno) {
	if _, e := plan.CheckPart(p, part); e != api.OK {
		return api.Repair{}, e
	}
	if g < 0 || g >= len(part) || part[g] == -1 {
		return api.Repair{}, api.ErrArg
	}
	return fix(p, part, []int{g}, most)
}

// fix returns the first repair that moves at most so many guests, some of whom have to be moved.
func fix(p api.Problem, part, away []int, most int) (api.Repair, api.Errno) {
	if Tries(p, part, most) > api.MaxWork {
		return api.Repair{}, api.ErrLarge
	}
	judge, _, _ := rule.New(p)
	m := &mender{judge, part, hall.Count(p.Tables), -1}
	for moved := len(away); moved <= min(max(most, 0), countSeated(part)); moved++ {
		if best, found := m.best(moved, away); found {
			return api.Repair{Problem: judge.Problem(), Plan: best.Plan, Moved: moved, Cost: best.Cost}, api.OK
		}
	}
	return api.Repair{}, api.ErrNone
}

// mender looks for repairs of a partial plan.
type mender struct {
	*rule.Judge
	part  []int
	seats int
	last  int // the hard rule that was last found to be broken, or -1
}

// best returns the first repair that moves just so many guests, some of whom have to be moved.
func (m *mender) best(moved int, away []int) (best api.Ranked, found bool) {
	x := slices.Clone(m.part)
	for _, g := range away {
		x[g] = -1
	}
	var seat func()
	seat = func() {
		if m.isDead(x) {
			return
		}
		// As -1 is less than any seat, plans that extend x do not come before the best one either, if x does not.
		now := api.Ranked{Plan: x, Cost: m.Floor(x)}
		if found && compare(now, best) >= 0 {
			return
		}
		g := slices.Index(x, -1)
		if g < 0 {
			best, found = api.Ranked{Plan: slices.Clone(x), Cost: now.Cost}, true
			return
		}
	seats:
		for s := range m.seats {
			for _, taken := range x {
				if taken == s {
					continue seats
				}
			}
			// Who has stood up sits elsewhere: otherwise fewer guests would be moved.
			if s != m.part[g] {
				x[g] = s
				seat()
			}
		}
		x[g] = -1
	}
	stand(x, 0, moved-len(away), seat)
	return best, found
}

// stand lets so many more guests of a partial plan, from some guest on, stand up, in all ways, and each time does something.
func stand(x []int, from, more int, do func()) {
	if more == 0 {
		do()
		return
	}
	for g := from; g < len(x); g++ {
		seat := x[g]
		if seat != -1 {
			x[g] = -1
			stand(x, g+1, more-1, do)
			x[g] = seat
		}
	}
}

// isDead reports whether no plan that extends a partial plan is right. The rule that told so the last time is asked first, as it
// often tells so again.
func (m *mender) isDead(x []int) bool {
	if m.Least(x, m.last) > 0 {
		return true
	}
	i, dead := m.Dead(x)
	if dead {
		m.last = i
	}
	return dead
}

// compare compares two plans by their costs, then as lists.
func compare(a, b api.Ranked) int {
	return cmp.Or(cmp.Compare(a.Cost, b.Cost), slices.Compare(a.Plan, b.Plan))
}
