package search_test

import (
	"math"
	"math/rand"
	"slices"
	"testing"

	"trestle/api"
	"trestle/search"
)

// Short ways to write the steps of proofs.
func caseOf(n int) api.Step   { return api.Step{Kind: api.Case, N: n} }
func brokenBy(n int) api.Step { return api.Step{Kind: api.Broken, N: n} }
func turnedBy(n int) api.Step { return api.Step{Kind: api.Turned, N: n} }
func dear() api.Step          { return api.Step{Kind: api.Dear} }

// shorter is the proof of 8 steps of the chapter's first example.
func shorter() []api.Step {
	b := brokenBy(0)
	return []api.Step{caseOf(0), caseOf(1), b, b, b, turnedBy(2), turnedBy(4), turnedBy(1)}
}

// mutated returns a proof that is changed somewhere.
func mutated(r *rand.Rand, steps []api.Step) []api.Step {
	steps = slices.Clone(steps)
	i := r.Intn(len(steps) + 1)
	switch r.Intn(5) {
	case 0:
		return steps[:i]
	case 1:
		return slices.Insert(steps, i, anyStep(r))
	case 2:
		return slices.Insert(steps, i, steps[i:]...)
	case 3:
		return slices.Delete(steps, max(i-1, 0), i)
	}
	if i < len(steps) {
		steps[i] = anyStep(r)
	}
	return steps
}

// P6.4, P6.5: proofs with any of the steps that apply, and such that are wrong somewhere; what is accepted holds of all right plans.
func TestVerify(t *testing.T) {
	r := rand.New(rand.NewSource(5))
	seen, kinds := map[api.Errno]int{}, map[api.StepKind]int{}
	for range 600 {
		m := modelOf(t, anyProblem(r, 130, r.Intn(8)))
		bound := pick(r, math.MinInt, -1, 0, 1, 2, 8, 1000, math.MaxInt)
		if len(m.right) > 0 && r.Intn(2) == 0 {
			bound = ranked(m.right)[0].Cost + r.Intn(2)
		}
		proof := m.anyProof(r, m.root(), bound)
		for i := range 5 {
			steps := proof
			if i > 0 {
				steps = mutated(r, proof)
			}
			before := slices.Clone(steps)
			at, e := search.Verify(m.p, bound, steps)
			if n, f := m.told(bound, steps); at != n || e != f {
				t.Fatalf("%v, bound %d: %v is %d, %d, not %d, %d", m.p, bound, steps, at, e, n, f)
			}
			if e == api.OK {
				if !m.holds(bound) {
					t.Fatalf("%v: %v is accepted for the bound %d", m.p, steps, bound)
				}
				for _, s := range steps {
					kinds[s.Kind]++
				}
			}
			if !slices.Equal(steps, before) {
				t.Fatal("a proof is changed")
			}
			seen[e]++
		}
	}
	for _, e := range []api.Errno{api.OK, api.ErrShort, api.ErrRest, api.ErrCase, api.ErrBroken, api.ErrDear, api.ErrTurned, api.ErrArg} {
		if seen[e] < 40 {
			t.Errorf("error %d only %d times", e, seen[e])
		}
	}
	for _, k := range []api.StepKind{api.Case, api.Broken, api.Dear, api.Turned} {
		if kinds[k] < 100 {
			t.Errorf("only %d steps of the kind %d are accepted", kinds[k], k)
		}
	}
}

// P6.4: the chapter's example 1, and what is wrong with changes of it.
func TestVerifyExamples(t *testing.T) {
	p := ring(apart, api.Rule{Kind: api.Mix, Weight: 1})
	b := brokenBy(0)
	plain := []api.Step{caseOf(0)}
	for range 4 {
		plain = append(plain, caseOf(1), b, b, b)
	}
	with := func(i int, s api.Step) []api.Step {
		l := shorter()
		l[i] = s
		return l
	}
	for _, x := range []struct {
		bound int
		steps []api.Step
		at    int
		e     api.Errno
	}{
		{-1, plain, 0, api.OK},
		{math.MinInt, plain, 0, api.OK},
		{math.MaxInt, plain, 0, api.OK},
		{-1, shorter(), 0, api.OK},
		{-1, shorter()[:7], 7, api.ErrShort},
		{-1, shorter()[:1], 1, api.ErrShort},
		{-1, nil, 0, api.ErrShort},
		{-1, []api.Step{}, 0, api.ErrShort},
		{-1, append(shorter(), b), 8, api.ErrRest},
		{-1, append(shorter(), api.Step{}, api.Step{}), 8, api.ErrRest},
		{-1, with(5, turnedBy(0)), 5, api.ErrTurned},
		{-1, with(5, turnedBy(-1)), 5, api.ErrTurned},
		{-1, with(5, turnedBy(8)), 5, api.ErrTurned},
		{-1, with(6, turnedBy(3)), 6, api.ErrTurned},
		{-1, with(6, turnedBy(7)), 0, api.OK},
		{-1, with(1, turnedBy(2)), 1, api.ErrTurned},
		{-1, with(0, turnedBy(2)), 0, api.ErrTurned},
		{-1, with(1, caseOf(0)), 1, api.ErrCase},
		{-1, with(1, caseOf(3)), 1, api.ErrCase},
		{-1, with(1, caseOf(-1)), 1, api.ErrCase},
		{-1, with(1, caseOf(math.MaxInt)), 1, api.ErrCase},
		{-1, with(1, b), 1, api.ErrBroken},
		{-1, with(3, brokenBy(1)), 3, api.ErrBroken},
		{-1, with(3, brokenBy(2)), 3, api.ErrBroken},
		{-1, with(3, brokenBy(-1)), 3, api.ErrBroken},
		{-1, with(4, dear()), 4, api.ErrDear},
		{1, with(4, dear()), 4, api.ErrDear},
		{0, with(4, dear()), 0, api.OK},
		{0, with(4, api.Step{Kind: api.Dear, N: math.MinInt}), 0, api.OK},
		{0, []api.Step{dear()}, 0, api.OK},
		{0, []api.Step{dear(), dear()}, 1, api.ErrRest},
		{-1, with(4, api.Step{}), 4, api.ErrArg},
		{-1, with(4, api.Step{Kind: 5}), 4, api.ErrArg},
		{-1, with(4, api.Step{Kind: 255}), 4, api.ErrArg},
	} {
		if at, e := search.Verify(p, x.bound, x.steps); at != x.at || e != x.e {
			t.Errorf("%v, bound %d: %d, %d, not %d, %d", x.steps, x.bound, at, e, x.at, x.e)
		}
	}
}

// P6.4: a turn has to leave the seats of all others at the table, whoever was seated first; other tables do not matter.
func TestVerifyTurned(t *testing.T) {
	p := feast(3, api.Table{Shape: api.Round, A: 4}, api.Table{Shape: api.Row, A: 2})
	for _, x := range []struct {
		first  []int // who is seated first, guest and seat
		second []int
		k      int
		ok     bool
	}{
		{[]int{0, 0}, []int{1, 3}, 1, true},  // 0321 leaves 0 and takes 3 to 1
		{[]int{1, 0}, []int{0, 3}, 1, true},  // whichever guest it is
		{[]int{0, 0}, []int{1, 1}, 1, false}, // it takes 1 to 3
		{[]int{0, 0}, []int{1, 2}, 1, false}, // it leaves 2
		{[]int{0, 0}, []int{1, 3}, 2, false}, // 1032 takes 3 to 2, but 0 to 1
		{[]int{0, 1}, []int{1, 2}, 4, true},  // 2103 leaves 1 and takes 2 to 0
		{[]int{0, 4}, []int{1, 1}, 2, true},  // who sits at the row does not matter
		{[]int{0, 4}, []int{1, 2}, 4, true},
		{[]int{0, 2}, []int{1, 5}, 1, true}, // the row may be turned as long as nobody else sits there
		{[]int{0, 4}, []int{1, 5}, 1, false},
		{[]int{0, 2}, []int{1, 5}, 2, false}, // there is no such element
	} {
		// The bound 0 lets each branch end at once, but for the one that is asked for.
		var steps []api.Step
		steps = append(steps, caseOf(x.first[0]))
		for seat := range 6 {
			if seat != x.first[1] {
				steps = append(steps, dear())
				continue
			}
			steps = append(steps, caseOf(x.second[0]))
			for seat := range 6 {
				switch seat {
				case x.first[1]:
				case x.second[1]:
					steps = append(steps, turnedBy(x.k))
				default:
					steps = append(steps, dear())
				}
			}
		}
		asked := api.OK
		if !x.ok {
			asked = api.ErrTurned
		}
		at, e := search.Verify(p, 0, steps)
		if e != asked || e != api.OK && steps[at] != turnedBy(x.k) {
			t.Errorf("%v: %d, %d, not %d", x, at, e, asked)
		}
	}
}

// P6.4: a rule that has faults, but no certain ones, is not broken yet, and what costs something need not cost it in the end.
func TestVerifyCertain(t *testing.T) {
	p := feast(2, api.Table{Shape: api.Row, A: 3})
	p.Guests[1].Host = true
	for _, kind := range []api.RuleKind{api.HostAt, api.Speak, api.Fill} {
		hard, weighed := api.Rule{Kind: kind}, api.Rule{Kind: kind, Weight: 2}
		if kind == api.Fill {
			hard.N, weighed.N = 2, 2
		}
		p.Rules = []api.Rule{weighed, hard}
		for _, x := range []struct {
			closing api.Step
			at      int
			e       api.Errno
		}{{brokenBy(1), 1, api.ErrBroken}, {brokenBy(0), 1, api.ErrBroken}, {dear(), 1, api.ErrDear}} {
			if at, e := search.Verify(p, 1, []api.Step{caseOf(0), x.closing}); at != x.at || e != x.e {
				t.Errorf("kind %d, %v: %d, %d", kind, x.closing, at, e)
			}
		}
	}
}

// P6.4: nobody is to be seated, and a hall whose plans are too many to go through them.
func TestVerifyAnySize(t *testing.T) {
	empty := feast(0, api.Table{Shape: api.Round, A: 4})
	empty.Rules = []api.Rule{{Kind: api.Fill, N: 2}, {Kind: api.Fill, N: 2, Weight: 3}}
	for _, x := range []struct {
		bound int
		steps []api.Step
		at    int
		e     api.Errno
	}{
		{-1, []api.Step{brokenBy(0)}, 0, api.OK}, {6, []api.Step{dear()}, 0, api.OK}, {7, []api.Step{dear()}, 0, api.ErrDear},
		{7, []api.Step{brokenBy(1)}, 0, api.ErrBroken}, {7, []api.Step{caseOf(0)}, 0, api.ErrCase}, {7, []api.Step{turnedBy(0)}, 0, api.ErrTurned},
	} {
		if at, e := search.Verify(empty, x.bound, x.steps); at != x.at || e != x.e {
			t.Errorf("nobody: %v, bound %d: %d, %d", x.steps, x.bound, at, e)
		}
	}
	if at, e := search.Verify(api.Problem{}, 0, []api.Step{dear()}); at != 0 || e != api.OK {
		t.Error("no tables", at, e)
	}
	p := feast(64, pair(384).Tables...)
	p.Rules = []api.Rule{{Kind: api.Limit}, {Kind: api.HostAt, Weight: 1000}}
	steps := append([]api.Step{caseOf(63)}, slices.Repeat([]api.Step{brokenBy(0)}, 384)...)
	if at, e := search.Verify(p, -1, steps); at != 0 || e != api.OK {
		t.Error("384 seats", at, e)
	}
	steps = append([]api.Step{caseOf(63)}, slices.Repeat([]api.Step{dear()}, 384)...)
	if at, e := search.Verify(p, 1000, steps); at != 0 || e != api.OK {
		t.Error("384 seats", at, e)
	}
	if at, e := search.Verify(p, 1001, steps); at != 1 || e != api.ErrDear {
		t.Error("384 seats", at, e)
	}
}

// long returns a proof for three guests on 384 seats: that many cases in the second row, and that many in the third one.
func long(second, third int) []api.Step {
	steps := []api.Step{caseOf(2)}
	for range 384 {
		if second == 0 {
			steps = append(steps, dear())
			continue
		}
		second--
		steps = append(steps, caseOf(0))
		for range 383 {
			if third == 0 {
				steps = append(steps, dear())
				continue
			}
			third--
			steps = append(steps, caseOf(1))
			steps = append(steps, slices.Repeat([]api.Step{dear()}, 382)...)
		}
	}
	return steps
}

// P6.4: a proof may have MaxSteps steps, but not more.
func TestVerifyLimit(t *testing.T) {
	p := feast(3, pair(384).Tables...)
	most, more := long(211, 311), long(212, 310)
	if len(most) != api.MaxSteps || len(more) != api.MaxSteps+1 {
		t.Fatalf("proofs of %d and %d steps", len(most), len(more))
	}
	for _, x := range []struct {
		steps []api.Step
		bound int
		at    int
		e     api.Errno
	}{
		{most, 0, 0, api.OK}, {more, 0, 0, api.ErrMany}, {more, -1, 0, api.ErrMany}, {most, -1, 3, api.ErrDear}, {most[:api.MaxSteps-1], 0, api.MaxSteps - 1, api.ErrShort},
		{append(most[:api.MaxSteps-1:api.MaxSteps-1], caseOf(7)), 0, api.MaxSteps - 1, api.ErrCase},
		{slices.Repeat([]api.Step{{}}, api.MaxSteps), 0, 0, api.ErrArg}, {slices.Repeat([]api.Step{{}}, api.MaxSteps+1), 0, 0, api.ErrMany},
	} {
		if at, e := search.Verify(p, x.bound, x.steps); at != x.at || e != x.e {
			t.Errorf("%d steps, bound %d: %d, %d, not %d, %d", len(x.steps), x.bound, at, e, x.at, x.e)
		}
	}
}

// P6.4: the problem's error comes first, with index 0, however many steps there are.
func TestVerifyErrors(t *testing.T) {
	for _, x := range fails() {
		for _, steps := range [][]api.Step{nil, {dear()}, {caseOf(9)}, slices.Repeat([]api.Step{{}}, api.MaxSteps+1)} {
			if at, e := search.Verify(x.p, 0, steps); at != 0 || e != x.e {
				t.Errorf("%d steps: %d, %d, not %d", len(steps), at, e, x.e)
			}
		}
	}
}
