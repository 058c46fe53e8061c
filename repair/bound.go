package repair

import (
	"slices"

	"trestle/api"
	"trestle/hall"
	"trestle/plan"
	"trestle/rule"
	"trestle/search"
)

// Upset returns the hard rules that have certain faults.
func Upset(p api.Problem, part []int) []int {
	if _, e := plan.CheckPart(p, part); e != api.OK {
		return nil
	}
	judge, _, _ := rule.New(p)
	return slices.DeleteFunc(rule.Hard(p), func(i int) bool { return judge.Least(part, i) == 0 })
}

// AtLeast returns how many guests every repair moves at least.
func AtLeast(p api.Problem, part []int) int {
	upset := slices.DeleteFunc(Upset(p, part), func(i int) bool { return isHelped(p.Rules[i].Kind) })
	if len(upset) == 0 {
		return 0
	}
	judge, _, _ := rule.New(p)
	n, counted := 0, make([]bool, len(part))
	for _, i := range upset {
		blamed := judge.Blame(part, i)
		if slices.ContainsFunc(blamed, func(g int) bool { return counted[g] }) {
			continue
		}
		n++
		for _, g := range blamed {
			counted[g] = true
		}
	}
	return n
}

// isHelped reports whether somebody who is not to blame can undo a fault of a rule, by coming.
func isHelped(kind api.RuleKind) bool {
	return kind == api.HostAt || kind == api.Speak || kind == api.Fill
}

// Tries returns how many ways to seat guests are tried.
func Tries(p api.Problem, part []int, most int) int {
	if _, e := plan.CheckPart(p, part); e != api.OK {
		return 0
	}
	free, seated := len(plan.Free(p, part)), countSeated(part)
	absent := len(part) - seated
	sum, sets := 0, 1
	for k := range min(max(most, 0), seated) + 1 {
		sum += ways(sets, choices(free+k, absent+k)...)
		if sum > api.MaxWork {
			return api.MaxWork + 1
		}
		// There are no more sets than tries, so this does not overflow.
		sets = sets * (seated - k) / (k + 1)
	}
	return sum
}

// countSeated returns how many guests are seated.
func countSeated(part []int) int {
	n := 0
	for _, seat := range part {
		if seat != -1 {
			n++
		}
	}
	return n
}

// choices returns among how many seats guests can choose, one after the other, if no fewer seats are free.
func choices(free, guests int) []int {
	list := make([]int, guests)
	for i := range list {
		list[i] = free - i
	}
	return list
}

// ways returns in how many ways one of some sets can be taken, and then so many choices made; MaxWork + 1 if they are more than
// MaxWork.
func ways(sets int, choices ...int) int {
	n := sets
	for _, c := range choices {
		n *= c
		if n > api.MaxWork {
			return api.MaxWork + 1
		}
	}
	return n
}

// Keep returns the problem whose costs are the numbers of guests that plans move.
func Keep(p api.Problem, part []int) (api.Problem, api.Errno) {
	if _, e := plan.CheckPart(p, part); e != api.OK {
		return api.Problem{}, e
	}
	q := rule.Only(p, rule.Hard(p))
	for g, seat := range part {
		if t, k, ok := hall.Where(p.Tables, seat); ok {
			q.Rules = append(q.Rules, api.Rule{Kind: api.Seat, Weight: 1, A: p.Guests[g].Name, Table: p.Tables[t].Name, N: k})
		}
	}
	if len(q.Rules) > api.MaxRules {
		return api.Problem{}, api.ErrMany
	}
	return q, api.OK
}

// Prove returns a proof that every repair moves at least so many guests.
func Prove(p api.Problem, part []int, moved int) ([]api.Step, api.Errno) {
	q, e := Keep(p, part)
	if e != api.OK {
		return nil, e
	}
	return search.Prove(q, moved)
}
