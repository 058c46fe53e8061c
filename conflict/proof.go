package conflict

import (
	"slices"

	"trestle/api"
	"trestle/plan"
	"trestle/rule"
	"trestle/search"
)

// Refute returns the first core, and a proof that it excludes.
func Refute(p api.Problem) (core []int, steps []api.Step, e api.Errno) {
	core, e = Core(p)
	if e != api.OK {
		return nil, nil, e
	}
	steps, e = search.Prove(rule.Only(p, core), -1)
	return core, steps, e
}

// Witness returns, for each rule of a set, the first plan that meets all others.
func Witness(p api.Problem, rules []int) ([][]int, api.Errno) {
	if e := check(p); e != api.OK {
		return nil, e
	}
	if !isSet(p, rules) {
		return nil, api.ErrArg
	}
	var list [][]int
	for k := range rules {
		x, e := search.First(rule.Only(p, slices.Concat(rules[:k], rules[k+1:])))
		if e != api.OK {
			return nil, e
		}
		list = append(list, x)
	}
	return list, api.OK
}

// CheckCore reports whether steps and witnesses show that a set is a core.
func CheckCore(p api.Problem, core []int, steps []api.Step, witness [][]int) (int, api.Errno) {
	if _, e := rule.Check(p); e != api.OK {
		return 0, e
	}
	if !isSet(p, core) || len(core) != len(witness) {
		return 0, api.ErrArg
	}
	// As the core increases, the rule at its position k is rule k here.
	q := rule.Only(p, core)
	if at, e := search.Verify(q, -1, steps); e != api.OK {
		return at, e
	}
	judge, _, _ := rule.New(q)
	for k, x := range witness {
		if _, e := plan.Check(q, x); e != api.OK {
			return k, e
		}
		if slices.ContainsFunc(judge.Broken(x), func(i int) bool { return i != k }) {
			return k, api.ErrFalse
		}
	}
	return 0, api.OK
}
