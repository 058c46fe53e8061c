package conflict_test

import (
	"math/rand"
	"reflect"
	"slices"
	"testing"

	"trestle/api"
	"trestle/conflict"
	"trestle/rule"
	"trestle/search"
)

// P7.6: either there is a right plan, or there is a core, which has a proof that is accepted (P2), but never both.
func TestRightPlanOrCore(t *testing.T) {
	r := rand.New(rand.NewSource(11))
	seen := map[bool]int{}
	for range 500 {
		p := anyProblem(r, 300, r.Intn(11))
		is, e := search.Exists(p)
		core, f := conflict.Core(p)
		all, g := conflict.Excludes(p, rule.Hard(p))
		_, broken, h := conflict.Nearest(p)
		if e != api.OK || (f == api.ErrMet) != is || (f == api.OK) == is || all == is || g != api.OK || (len(broken) == 0) != is || h != api.OK {
			t.Fatalf("%v: a right plan: %v; the core %v, %d; all exclude: %v; %v have to be broken", p, is, core, f, all, broken)
		}
		if !is {
			left, e := conflict.Shrink(p, rule.Hard(p))
			cores, f := conflict.Cores(p, 252)
			if e != api.OK || f != api.OK || !slices.ContainsFunc(cores, func(x []int) bool { return slices.Equal(x, left) }) {
				t.Fatalf("%v: %v, %d, is none of %v, %d", p, left, e, cores, f)
			}
			// Whatever the other rules are, the rules of a core exclude each other.
			if is, e := search.Exists(rule.Only(p, core)); is || e != api.OK {
				t.Fatalf("%v: %v can be met", p, core)
			}
		}
		seen[is]++
	}
	if seen[true] < 100 || seen[false] < 100 {
		t.Error("problems", seen)
	}
}

// P7.6: the minimal hitting sets of all cores are the releases, and those of all releases are the cores. What Nearest breaks is
// a release, and no release has fewer elements.
func TestCoresAndReleases(t *testing.T) {
	r := rand.New(rand.NewSource(12))
	several := 0
	for range 500 {
		p := anyProblem(r, 300, 3+r.Intn(8))
		cores, e := conflict.Cores(p, 252)
		releases, f := conflict.Releases(p, 252)
		if e != api.OK || f != api.OK || len(releases) == 0 || !conflict.Hits(cores, releases) {
			t.Fatalf("%v: the cores %v, %d, the releases %v, %d", p, cores, e, releases, f)
		}
		if list, e := conflict.Transversals(cores, 252); !equal(list, releases) || e != api.OK {
			t.Fatalf("%v: %v hit the cores %v, not %v", p, list, cores, releases)
		}
		if list, e := conflict.Transversals(releases, 252); !equal(list, cores) || e != api.OK {
			t.Fatalf("%v: %v hit the releases %v, not %v", p, list, releases, cores)
		}
		_, broken, e := conflict.Nearest(p)
		if !slices.ContainsFunc(releases, func(x []int) bool { return slices.Equal(x, broken) }) || len(broken) != len(releases[0]) || e != api.OK {
			t.Fatalf("%v: %v, %d, is broken, not %v", p, broken, e, releases)
		}
		if len(cores) > 1 && len(releases) > 1 {
			several++
		}
	}
	if several < 30 {
		t.Errorf("only %d times there are several cores and releases", several)
	}
}

// copied returns a problem that shares no memory with another one.
func copied(p api.Problem) api.Problem {
	q := api.Problem{Ties: slices.Clone(p.Ties), Class: slices.Clone(p.Class), Rules: slices.Clone(p.Rules), Tables: slices.Clone(p.Tables), Guests: slices.Clone(p.Guests)}
	for i := range q.Tables {
		q.Tables[i].Open = slices.Clone(q.Tables[i].Open)
	}
	for i := range q.Guests {
		q.Guests[i].Tongues = slices.Clone(q.Guests[i].Tongues)
	}
	return q
}

// P1: every function answers, whatever its arguments are, and changes none of them (R4); with an error it answers nothing else.
func TestAnyArgument(t *testing.T) {
	r := rand.New(rand.NewSource(13))
	number := func() int { return pick(r, strange()...) }
	name := func() string { return pick(r, "", "-", "a", "aa", "top", "sun", "A", "\xff", "a b", "a\n") }
	for range 1500 {
		p := anyProblem(r, 130, r.Intn(9))
		switch r.Intn(8) {
		case 0:
			p.Class = []int{number(), number()}
		case 1:
			p.Tables = append(p.Tables, api.Table{Name: name(), Shape: api.Shape(r.Intn(6)), A: number(), B: number(), Open: []int{number()}, X: number()})
		case 2:
			p.Guests = append(p.Guests, api.Guest{Name: name(), Side: number(), Since: number(), Tongues: []string{name()}})
		case 3:
			p.Rules = append(p.Rules, api.Rule{Kind: api.RuleKind(r.Intn(20)), Weight: number(), A: name(), B: name(), Table: name(), N: number()})
		case 4:
			p.Ties = append(p.Ties, api.Tie{A: name(), B: name(), Kind: api.TieKind(r.Intn(4))})
		}
		rules := r.Perm(10)[:r.Intn(4)]
		var steps []api.Step
		var lists [][]int
		for range r.Intn(5) {
			if r.Intn(4) == 0 {
				rules = append(rules, number())
			}
			steps = append(steps, api.Step{Kind: api.StepKind(r.Intn(6)), N: number()})
			lists = append(lists, []int{number(), number()})
		}
		first, second, third, fourth := copied(p), slices.Clone(rules), slices.Clone(steps), []int(nil)
		for _, x := range lists {
			fourth = append(fourth, x...)
		}
		askAll(t, p, number, rules, steps, lists)
		if !reflect.DeepEqual(p, first) || !slices.Equal(rules, second) || !slices.Equal(steps, third) || !slices.Equal(slices.Concat(lists...), fourth) {
			t.Fatal("an argument is changed")
		}
	}
}

// askAll calls all functions, and fails a test if one answers something beside an error.
func askAll(t *testing.T, p api.Problem, number func() int, rules []int, steps []api.Step, lists [][]int) {
	t.Helper()
	_, invalid := rule.Check(p)
	silent := func(what string, e api.Errno, answers ...any) {
		t.Helper()
		if invalid != api.OK && e != invalid {
			t.Fatalf("%s of %v: %d, not %d", what, p, e, invalid)
		}
		for _, x := range answers {
			if v := reflect.ValueOf(x); e != api.OK && !v.IsZero() && (v.Kind() != reflect.Slice || v.Len() > 0) {
				t.Fatalf("%s with error %d: %v", what, e, x)
			}
		}
	}
	is, e := conflict.Excludes(p, rules)
	silent("Excludes", e, is)
	core, e := conflict.Core(p)
	silent("Core", e, core)
	cores, e := conflict.Cores(p, number())
	silent("Cores", e, cores)
	releases, e := conflict.Releases(p, number())
	silent("Releases", e, releases)
	left, e := conflict.Shrink(p, rules)
	silent("Shrink", e, left)
	core, proof, e := conflict.Refute(p)
	silent("Refute", e, core, proof)
	witness, e := conflict.Witness(p, rules)
	silent("Witness", e, witness)
	_, e = conflict.CheckCore(p, rules, steps, lists)
	silent("CheckCore", e)
	_, e = conflict.CheckCore(p, core, proof, lists)
	silent("CheckCore", e)
	plan, broken, e := conflict.Nearest(p)
	silent("Nearest", e, plan, broken)
	text := conflict.Describe(p, rules)
	read, _, e := conflict.ParseCore(p, text)
	silent("ParseCore", e, read)
	read, _, e = conflict.ParseCore(p, text+"rule 0 hard")
	silent("ParseCore", e, read)
	conflict.Hits(lists, [][]int{rules, nil})
	if sets, e := conflict.Transversals(append(lists, rules), number()); e != api.OK && sets != nil {
		t.Fatalf("Transversals with error %d: %v", e, sets)
	}
}

// R4: lists of a result share no memory, neither with each other nor with an argument: what is done to one of them changes no
// other, and not the next answer.
func TestNewMemory(t *testing.T) {
	p := example(t)
	pair, sets := []int{0, 1}, [][]int{{0, 1}, {1, 2}}
	for range 2 {
		cores, _ := conflict.Cores(p, 9)
		releases, _ := conflict.Releases(p, 9)
		witness, _ := conflict.Witness(p, pair)
		hitting, _ := conflict.Transversals(sets, 9)
		for _, x := range []struct{ got, want [][]int }{
			{cores, [][]int{{2}, {0, 1}}}, {releases, [][]int{{0, 2}, {1, 2}}}, {witness, [][]int{{0, 2, 1}, {0, 1, 2}}}, {hitting, [][]int{{1}, {0, 2}}},
		} {
			if !equal(x.got, x.want) {
				t.Errorf("%v, not %v", x.got, x.want)
			}
			for i, l := range x.got {
				if !slices.Equal(l, x.want[i]) {
					t.Errorf("%v has become %v", x.want[i], l)
				}
				_ = append(l, -7)
				for k := range l {
					l[k] = -7
				}
			}
		}
		left, _ := conflict.Shrink(p, pair)
		core, steps, _ := conflict.Refute(p)
		plan, broken, _ := conflict.Nearest(p)
		if !slices.Equal(left, pair) || !slices.Equal(core, []int{2}) || len(steps) == 0 || !slices.Equal(plan, []int{0, 1, 3}) || !slices.Equal(broken, []int{1, 2}) {
			t.Error(left, core, steps, plan, broken)
		}
		for _, l := range [][]int{left, core, plan, broken} {
			for k := range l {
				l[k] = -7
			}
		}
		if !slices.Equal(pair, []int{0, 1}) || !equal(sets, [][]int{{0, 1}, {1, 2}}) || !reflect.DeepEqual(p, example(t)) {
			t.Error("an argument is changed")
		}
	}
}
