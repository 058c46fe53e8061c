package plan

import (
	"slices"

	"trestle/api"
	"trestle/hall"
)

// Moved returns the number of positions at which two lists differ.
func Moved(a, b []int) int {
	if len(a) != len(b) {
		return 0
	}
	n := 0
	for i := range a {
		if a[i] != b[i] {
			n++
		}
	}
	return n
}

// Moves returns the moves that lead from one partial plan to another one.
func Moves(p api.Problem, a, b []int) ([]api.Move, api.Errno) {
	for _, part := range [][]int{a, b} {
		if _, e := CheckPart(p, part); e != api.OK {
			return nil, e
		}
	}
	now := slices.Clone(a)
	var l []api.Move
	for !slices.Equal(now, b) {
		m := nextMove(now, b)
		now[m.Guest] = m.To
		l = append(l, m)
	}
	return l, api.OK
}

// nextMove returns the move that is made next on the way from a partial plan to another one.
func nextMove(now, goal []int) api.Move {
	guestOn := sitting(now)
	first := -1
	for g, to := range goal {
		if now[g] == to {
			continue
		}
		if _, taken := guestOn(to); !taken {
			return api.Move{Guest: g, From: now[g], To: to}
		}
		if first < 0 {
			first = g
		}
	}
	// All who are not there yet want each other's seats, so all of them are seated.
	return api.Move{Guest: first, From: now[first], To: -1}
}

// Do makes moves: the partial plan after them, or the first wrong one and its error.
func Do(p api.Problem, part []int, l []api.Move) ([]int, int, api.Errno) {
	if _, e := CheckPart(p, part); e != api.OK {
		return nil, 0, e
	}
	now := slices.Clone(part)
	seats := hall.Count(p.Tables)
	for i, m := range l {
		if e := checkMove(seats, now, m); e != api.OK {
			return nil, i, e
		}
		now[m.Guest] = m.To
	}
	return now, 0, api.OK
}

// checkMove reports whether a move can be made in a partial plan on a number of seats.
func checkMove(seats int, now []int, m api.Move) api.Errno {
	switch {
	case m.Guest < 0 || m.Guest >= len(now) || m.From != now[m.Guest] || m.From == m.To:
		return api.ErrArg
	case m.To == -1:
		return api.OK
	}
	return checkSeat(seats, now, m.To)
}
