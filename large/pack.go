package large

import (
	"slices"

	"trestle/api"
	"trestle/rule"
)

// PackCost returns the cost of a pack.
func PackCost(p api.Problem, rules []int) (int, api.Errno) {
	return Bound(p, []api.Pack{{Rules: rules}})
}

// Packs returns packs of the weighed rules, with their costs.
func Packs(p api.Problem) ([]api.Pack, api.Errno) {
	h, e := hostOf(p)
	if e != api.OK {
		return nil, e
	}
	return h.packs()
}

// Bound returns the sum of the costs of packs.
func Bound(p api.Problem, packs []api.Pack) (int, api.Errno) {
	h, e := hostOf(p)
	if e != api.OK {
		return 0, e
	}
	costs, e := h.costs(packs)
	return sum(costs), e
}

// sum returns the sum of some numbers.
func sum(list []int) int {
	n := 0
	for _, x := range list {
		n += x
	}
	return n
}

// bundle is rules of a problem, with all guests whom they name.
type bundle struct {
	rules, guests []int
}

// bundle returns a bundle of rules.
func (h host) bundle(rules ...int) bundle {
	var b bundle
	for _, i := range rules {
		b = b.with(bundle{[]int{i}, rule.Named(h.problem, i)})
	}
	return b
}

// with returns a bundle with another one behind it.
func (b bundle) with(other bundle) bundle {
	guests := slices.Concat(b.guests, other.guests)
	slices.Sort(guests)
	return bundle{slices.Concat(b.rules, other.rules), slices.Compact(guests)}
}

// meets reports whether two bundles have a guest in common.
func (b bundle) meets(other bundle) bool {
	return slices.ContainsFunc(other.guests, func(g int) bool { return slices.Contains(b.guests, g) })
}

// bundles returns the bundles that Packs makes packs of.
func (h host) bundles() []bundle {
	var list []bundle
	for _, i := range rule.Weighed(h.problem) {
		one := h.bundle(i)
		if h.work(one) > MaxPack {
			continue
		}
		k := slices.IndexFunc(list, func(b bundle) bool { return b.meets(one) && h.work(b.with(one)) <= MaxPack })
		if k < 0 {
			list = append(list, one)
		} else {
			list[k] = list[k].with(one)
		}
	}
	return list
}

// packs returns packs of the weighed rules, with their costs.
func (h host) packs() ([]api.Pack, api.Errno) {
	var packs []api.Pack
	for _, b := range h.bundles() {
		cost, e := h.cost(b)
		if e != api.OK {
			return nil, e
		}
		packs = append(packs, api.Pack{Rules: b.rules, Cost: cost})
	}
	return packs, api.OK
}

// work returns in how many ways the guests of a bundle can be seated, or some number above MaxWork if that is.
func (h host) work(b bundle) int {
	n := 1
	for k := range b.guests {
		n = min(n*(h.seats-k), api.MaxWork+1)
	}
	return n
}

// costs returns the costs of packs.
func (h host) costs(packs []api.Pack) ([]int, api.Errno) {
	weighed := rule.Weighed(h.problem)
	var costs, earlier []int
	for _, pack := range packs {
		if !isPack(pack.Rules, weighed, earlier) {
			return nil, api.ErrPack
		}
		b := h.bundle(pack.Rules...)
		if h.work(b) > api.MaxWork {
			return nil, api.ErrLarge
		}
		cost, e := h.cost(b)
		if e != api.OK {
			return nil, e
		}
		costs = append(costs, cost)
		earlier = append(earlier, pack.Rules...)
	}
	return costs, api.OK
}

// isPack reports whether rules are a pack of weighed ones, none of which is in an earlier pack.
func isPack(rules, weighed, earlier []int) bool {
	for k, i := range rules {
		if !slices.Contains(weighed, i) || slices.Contains(earlier, i) || k > 0 && i <= rules[k-1] {
			return false
		}
	}
	return len(rules) > 0
}

// cost returns the cost of a bundle that is a pack.
func (h host) cost(b bundle) (int, api.Errno) {
	q := quest{host: h, rules: b.rules}
	q.seat(h.nobody(), b.guests)
	if !q.found {
		return 0, api.ErrNone
	}
	return q.least, api.OK
}

// quest looks for the least cost of the certain faults of some rules.
type quest struct {
	host
	rules []int
	least int // of what it has found
	found bool
}

// seat goes through the ways to seat guests who are not seated yet. As seating them takes no certain fault away, it leaves a
// way that is no good before all of them sit.
func (q *quest) seat(part, guests []int) {
	cost := q.certain(part)
	if q.found && cost >= q.least {
		return
	}
	if _, dead := q.Dead(part); dead {
		return
	}
	if len(guests) == 0 {
		q.least, q.found = cost, true
		return
	}
	for next := range q.seatings(part, guests[0]) {
		q.seat(next, guests[1:])
	}
}

// certain returns what the certain faults cost in a partial plan.
func (q *quest) certain(part []int) int {
	n := 0
	for _, i := range q.rules {
		n += q.problem.Rules[i].Weight * q.Least(part, i)
	}
	return n
}
