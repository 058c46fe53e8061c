package conflict_test

import (
	"math"
	"math/rand"
	"slices"
	"testing"

	"trestle/api"
	"trestle/conflict"
	"trestle/plan"
	"trestle/rule"
	"trestle/search"
)

// others returns all rules of a set but the one at some place.
func others(rules []int, but int) []int { return slices.Delete(slices.Clone(rules), but, but+1) }

// witness returns what Witness is to say of some rules.
func (m *model) witness(rules []int) ([][]int, api.Errno) {
	var list [][]int
	for k := range rules {
		x, ok := m.first(others(rules, k))
		if !ok {
			return nil, api.ErrNone
		}
		list = append(list, x)
	}
	return list, api.OK
}

// P7.2: the first core, with a proof that search accepts for its rules alone.
func TestRefute(t *testing.T) {
	r := rand.New(rand.NewSource(3))
	refuted := 0
	for range 400 {
		m := modelOf(t, anyProblem(r, 130, 2+r.Intn(9)))
		cores := m.cores()
		core, steps, e := conflict.Refute(m.p)
		if len(cores) == 0 {
			if core != nil || steps != nil || e != api.ErrMet {
				t.Fatalf("%v: %v, %v, %d", m.p, core, steps, e)
			}
			continue
		}
		at, f := search.Verify(rule.Only(m.p, core), -1, steps)
		if !slices.Equal(core, cores[0]) || e != api.OK || at != 0 || f != api.OK {
			t.Fatalf("%v: %v, %v, %d; the proof: %d, %d", m.p, core, steps, e, at, f)
		}
		refuted++
	}
	if refuted < 100 {
		t.Errorf("only %d problems are refuted", refuted)
	}
}

// P7.2: the first plans that meet all rules of a set but one, or ErrNone if there is none.
func TestWitness(t *testing.T) {
	r := rand.New(rand.NewSource(4))
	none, found := 0, 0
	for range 200 {
		m := modelOf(t, anyProblem(r, 130, r.Intn(9)))
		for set := range m.meets {
			want, f := m.witness(m.rules(set))
			list, e := conflict.Witness(m.p, m.rules(set))
			if !equal(list, want) || e != f {
				t.Fatalf("%v: %v: %v, %d, not %v, %d", m.p, m.rules(set), list, e, want, f)
			}
			if e == api.OK {
				found++
			} else {
				none++
			}
		}
	}
	if none < 100 || found < 500 {
		t.Errorf("%d sets have witnesses, %d have none", found, none)
	}
}

// checked returns what CheckCore is to say, by the chapter.
func (m *model) checked(core []int, steps []api.Step, witness [][]int) (int, api.Errno) {
	for k, i := range core {
		if !slices.Contains(m.hard, i) || k > 0 && core[k-1] >= i {
			return 0, api.ErrArg
		}
	}
	if len(core) != len(witness) {
		return 0, api.ErrArg
	}
	if at, e := search.Verify(rule.Only(m.p, core), -1, steps); e != api.OK {
		return at, e
	}
	for k, x := range witness {
		if _, e := plan.Check(m.p, x); e != api.OK {
			return k, e
		}
		if slices.ContainsFunc(others(core, k), func(i int) bool { return m.judge.Faults(x, i) > 0 }) {
			return k, api.ErrFalse
		}
	}
	return 0, api.OK
}

// anyCore returns a set that is often a core, with a proof and witnesses that often show it.
func (m *model) anyCore(r *rand.Rand) (core []int, steps []api.Step, witness [][]int) {
	core = m.rules(r.Intn(len(m.meets)))
	if cores := m.cores(); len(cores) > 0 && r.Intn(4) > 0 {
		core = slices.Clone(pick(r, cores...))
	}
	steps, _ = search.Prove(rule.Only(m.p, core), -1)
	for k := range core {
		// Any plan that meets the others will do, not only the first one.
		var good [][]int
		for _, x := range m.plans {
			if !slices.ContainsFunc(others(core, k), func(i int) bool { return slices.Contains(x.broken, i) }) {
				good = append(good, x.plan)
			}
		}
		if len(good) == 0 || r.Intn(8) == 0 {
			good = append(good, pick(r, m.plans...).plan)
		}
		witness = append(witness, slices.Clone(pick(r, good...)))
	}
	return core, steps, witness
}

// spoil changes something in a set, in its proof or in its witnesses.
func spoil(r *rand.Rand, core []int, steps []api.Step, witness [][]int) ([]int, []api.Step, [][]int) {
	place := func(n int) int { return r.Intn(max(n, 1)) }
	switch at := place(len(witness)); r.Intn(9) {
	case 0:
		core = append(core, pick(r, strange()...))
	case 1:
		slices.Reverse(core)
	case 2:
		core = core[:place(len(core))]
	case 3:
		steps = steps[:place(len(steps))]
	case 4:
		steps = append(slices.Clone(steps), api.Step{Kind: api.StepKind(r.Intn(6)), N: r.Intn(3)})
	case 5:
		if len(steps) > 0 {
			steps = slices.Clone(steps)
			steps[place(len(steps))] = api.Step{Kind: api.StepKind(r.Intn(6)), N: pick(r, strange()...)}
		}
	case 6:
		witness = witness[:place(len(witness))]
	case 7:
		if len(witness) > 0 {
			witness[at] = append(witness[at], pick(r, strange()...))
		}
	case 8:
		if len(witness) > 0 && len(witness[at]) > 0 {
			witness[at][place(len(witness[at]))] = pick(r, strange()...)
		}
	}
	return core, steps, witness
}

// P7.2, P7.6: sets with their proofs and witnesses, right and wrong; what is accepted is a core, whoever wrote them.
func TestCheckCore(t *testing.T) {
	r := rand.New(rand.NewSource(5))
	seen, wrong := map[api.Errno]int{}, map[int]int{}
	for range 800 {
		m := modelOf(t, anyProblem(r, 130, 2+r.Intn(9)))
		for i := range 5 {
			core, steps, witness := m.anyCore(r)
			if i > 1 {
				core, steps, witness = spoil(r, core, steps, witness)
			}
			n, f := m.checked(core, steps, witness)
			at, e := conflict.CheckCore(m.p, core, steps, witness)
			if at != n || e != f {
				t.Fatalf("%v: %v, %v, %v: %d, %d, not %d, %d", m.p, core, steps, witness, at, e, n, f)
			}
			if e == api.OK && !m.isCore(core) {
				t.Fatalf("%v: %v, %v, %v is accepted", m.p, core, steps, witness)
			}
			seen[e]++
			if e == api.ErrFalse {
				wrong[at]++
			}
		}
	}
	for _, e := range []api.Errno{api.OK, api.ErrArg, api.ErrShort, api.ErrRest, api.ErrBroken, api.ErrStale, api.ErrSeat, api.ErrFalse} {
		if seen[e] < 20 {
			t.Errorf("error %d only %d times", e, seen[e])
		}
	}
	if wrong[0] < 10 || wrong[1] < 10 {
		t.Errorf("the first witness that breaks another rule: %v", wrong)
	}
}

// P7.2: CheckCore accepts what Refute and Witness return for the first core.
func TestRefutedIsAccepted(t *testing.T) {
	r := rand.New(rand.NewSource(6))
	accepted := 0
	for range 400 {
		p := anyProblem(r, 210, 3+r.Intn(8))
		core, steps, e := conflict.Refute(p)
		if e == api.ErrMet {
			continue
		}
		witness, f := conflict.Witness(p, core)
		at, g := conflict.CheckCore(p, core, steps, witness)
		if e != api.OK || f != api.OK || at != 0 || g != api.OK {
			t.Fatalf("%v: %v, %v, %d, %v, %d: %d, %d", p, core, steps, e, witness, f, at, g)
		}
		accepted++
	}
	if accepted < 100 {
		t.Errorf("only %d are accepted", accepted)
	}
}

// P7.2: the chapter's examples, and what is wrong with changes of them.
func TestProofExamples(t *testing.T) {
	p := example(t)
	core, steps, e := conflict.Refute(p)
	if at, f := search.Verify(rule.Only(p, core), -1, steps); !slices.Equal(core, []int{2}) || e != api.OK || at != 0 || f != api.OK {
		t.Error("Refute", core, e, at, f)
	}
	pair := []int{0, 1}
	witness, e := conflict.Witness(p, pair)
	if !equal(witness, [][]int{{0, 2, 1}, {0, 1, 2}}) || e != api.OK {
		t.Error("Witness", witness, e)
	}
	for _, rules := range [][]int{nil, {}} {
		if list, e := conflict.Witness(p, rules); len(list) != 0 || e != api.OK {
			t.Error("Witness of no rules", list, e)
		}
	}
	if list, e := conflict.Witness(p, []int{2}); !equal(list, [][]int{{0, 1, 2}}) || e != api.OK {
		t.Error("Witness of one rule", list, e)
	}
	proof, e := search.Prove(rule.Only(p, pair), -1)
	if e != api.OK {
		t.Fatal("Prove", e)
	}
	for _, x := range []struct {
		core    []int
		steps   []api.Step
		witness [][]int
		at      int
		e       api.Errno
	}{
		{pair, proof, witness, 0, api.OK},
		{pair, proof, [][]int{{3, 1, 0}, {1, 0, 2}}, 0, api.OK},
		{[]int{1, 0}, proof, witness, 0, api.ErrArg},
		{[]int{0, 0}, proof, witness, 0, api.ErrArg},
		{[]int{0, 3}, proof, witness, 0, api.ErrArg},
		{[]int{0, 5}, proof, witness, 0, api.ErrArg},
		{[]int{-1, 0}, proof, witness, 0, api.ErrArg},
		{pair, proof, witness[:1], 0, api.ErrArg},
		{pair, proof, append(slices.Clone(witness), []int{0, 1, 2}), 0, api.ErrArg},
		{pair, proof, nil, 0, api.ErrArg},
		{pair, nil, nil, 0, api.ErrArg},
		{nil, proof, witness, 0, api.ErrArg},
		{pair, nil, witness, 0, api.ErrShort},
		{pair, proof[:len(proof)-1], witness, len(proof) - 1, api.ErrShort},
		{pair, append(slices.Clone(proof), api.Step{}), witness, len(proof), api.ErrRest},
		{pair, []api.Step{{Kind: api.Dear}}, witness, 0, api.ErrDear},
		{pair, []api.Step{{Kind: api.Broken, N: 2}}, [][]int{nil, nil}, 0, api.ErrBroken},
		{pair, slices.Repeat([]api.Step{{}}, api.MaxSteps+1), witness, 0, api.ErrMany},
		{nil, nil, nil, 0, api.ErrShort},
		{nil, proof, nil, 2, api.ErrBroken},
		{pair, proof, [][]int{nil, nil}, 0, api.ErrStale},
		{pair, proof, [][]int{{0, 2, 1}, {0, 1}}, 1, api.ErrStale},
		{pair, proof, [][]int{{0, 2, 1}, {0, 1, 2, 3}}, 1, api.ErrStale},
		{pair, proof, [][]int{{0, 2, 1}, {0, 1, -1}}, 1, api.ErrMiss},
		{pair, proof, [][]int{{0, 2, 1}, {0, 1, 4}}, 1, api.ErrSeat},
		{pair, proof, [][]int{{0, 2, 1}, {0, 1, 1}}, 1, api.ErrTaken},
		{pair, proof, [][]int{{0, 1, 2}, {0, 2, 1}}, 0, api.ErrFalse},
		{pair, proof, [][]int{{0, 2, 1}, {0, 2, 1}}, 1, api.ErrFalse},
		{pair, proof, [][]int{{0, 1, 2}, {0, 1}}, 0, api.ErrFalse},
		{pair, proof, [][]int{{0, 2, 1}, {0, 1, 4}, {0}}, 0, api.ErrArg},
	} {
		if at, e := conflict.CheckCore(p, x.core, x.steps, x.witness); at != x.at || e != x.e {
			t.Errorf("%v, %d steps, %v: %d, %d, not %d, %d", x.core, len(x.steps), x.witness, at, e, x.at, x.e)
		}
	}
	// With the rule apart as well the set excludes, but is no core: whoever sits where, a witness breaks that rule.
	three := []int{0, 1, 2}
	proof, _ = search.Prove(rule.Only(p, three), -1)
	if at, e := conflict.CheckCore(p, three, proof, [][]int{{0, 2, 1}, {0, 1, 2}, {0, 1, 2}}); at != 0 || e != api.ErrFalse {
		t.Error("a set that is no core", at, e)
	}
}

// P7.2: CheckCore does not search: it takes problems whose work is too large, and with any number of hard rules. A rule's index
// in a proof is its place in the core.
func TestCheckCoreLarge(t *testing.T) {
	p := crowd(64)
	p.Rules[0].Weight, p.Rules[1].Kind = 1, api.Mix
	seated := make([]int, 64)
	for g := range seated {
		seated[g] = 383 - g
	}
	steps := append([]api.Step{{Kind: api.Case}}, slices.Repeat([]api.Step{{Kind: api.Broken}}, 384)...)
	for _, x := range []struct {
		core    []int
		witness [][]int
		at      int
		e       api.Errno
	}{
		{[]int{2}, [][]int{seated}, 0, api.OK},
		{[]int{63}, [][]int{seated}, 0, api.OK},
		{[]int{1}, [][]int{seated}, 1, api.ErrBroken},
		{[]int{1, 2}, [][]int{seated, seated}, 1, api.ErrBroken},
		{[]int{2, 63}, [][]int{seated, seated}, 0, api.ErrFalse},
		{[]int{0}, [][]int{seated}, 0, api.ErrArg},
		{[]int{64}, [][]int{seated}, 0, api.ErrArg},
		{[]int{2}, [][]int{seated[:63]}, 0, api.ErrStale},
	} {
		if at, e := conflict.CheckCore(p, x.core, steps, x.witness); at != x.at || e != x.e {
			t.Errorf("%v: %d, %d, not %d, %d", x.core, at, e, x.at, x.e)
		}
	}
	steps[7].N = 1
	if at, e := conflict.CheckCore(p, []int{2, 3}, steps, [][]int{seated, seated}); at != 0 || e != api.ErrFalse {
		t.Error("two rules that exclude alone", at, e)
	}
}

// P7.2: a problem's error comes first, then ErrLarge but for CheckCore, then the others.
func TestProofErrors(t *testing.T) {
	ask := func(p api.Problem, asked api.Errno) {
		t.Helper()
		if core, steps, e := conflict.Refute(p); core != nil || steps != nil || e != asked {
			t.Errorf("Refute %v, %v, %d, not %d", core, steps, e, asked)
		}
		for _, rules := range [][]int{nil, {0}, {0, 1}, {1, 0}, {99}} {
			if list, e := conflict.Witness(p, rules); list != nil || e != asked {
				t.Errorf("Witness of %v: %v, %d, not %d", rules, list, e, asked)
			}
		}
	}
	for _, x := range fails() {
		ask(x.p, x.e)
		for _, core := range [][]int{nil, {0}, {1, 0}} {
			if at, e := conflict.CheckCore(x.p, core, []api.Step{{Kind: api.Case}, {}}, nil); at != 0 || e != x.e {
				t.Errorf("CheckCore of %v: %d, %d, not %d", core, at, e, x.e)
			}
		}
	}
	for _, p := range larges(t) {
		ask(p, api.ErrLarge)
		if at, e := conflict.CheckCore(p, nil, []api.Step{{Kind: api.Case}}, nil); at != 1 || e != api.ErrShort {
			t.Errorf("CheckCore of a large problem: %d, %d", at, e)
		}
	}
	p := example(t)
	for _, rules := range [][]int{{1, 0}, {0, 0}, {0, 3}, {3}, {5}, {-1}, {2, 1, 0}, {0, 1, 2, 5}, {math.MinInt}, {0, math.MaxInt}} {
		if list, e := conflict.Witness(p, rules); list != nil || e != api.ErrArg {
			t.Errorf("Witness of %v: %v, %d", rules, list, e)
		}
	}
	for _, rules := range [][]int{{0, 1, 2}, {0, 2}, {0, 1, 4}} {
		want, asked := modelOf(t, p).witness(rules)
		if list, e := conflict.Witness(p, rules); !equal(list, want) || e != asked {
			t.Errorf("Witness of %v: %v, %d, not %d", rules, list, e, asked)
		}
	}
}
