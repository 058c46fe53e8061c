package conflict_test

import (
	"math"
	"math/rand"
	"slices"
	"strings"
	"testing"

	"trestle/api"
	"trestle/conflict"
	"trestle/rule"
)

// limited expects that some function returns a list if it is not longer than a limit.
func limited(t *testing.T, what string, want [][]int, ask func(limit int) ([][]int, api.Errno)) {
	t.Helper()
	n := len(want)
	for _, limit := range []int{math.MinInt, -1, 0, 1, n - 1, n, n + 1, math.MaxInt} {
		list, e := ask(limit)
		if n > max(limit, 0) {
			if list != nil || e != api.ErrMany {
				t.Fatalf("%s, at most %d of %d: %v, %d", what, limit, n, list, e)
			}
		} else if !equal(list, want) || e != api.OK {
			t.Fatalf("%s, at most %d: %v, %d, not %v", what, limit, list, e, want)
		}
	}
}

// P7.1: the cores and the releases of problems, in order, up to a limit.
func TestCores(t *testing.T) {
	r := rand.New(rand.NewSource(1))
	met, several, sizes := 0, 0, map[int]int{}
	for range 500 {
		m := modelOf(t, anyProblem(r, 130, 2+r.Intn(9)))
		cores, releases := m.cores(), m.releases()
		limited(t, "Cores", cores, func(limit int) ([][]int, api.Errno) { return conflict.Cores(m.p, limit) })
		limited(t, "Releases", releases, func(limit int) ([][]int, api.Errno) { return conflict.Releases(m.p, limit) })
		core, e := conflict.Core(m.p)
		if len(cores) == 0 {
			met++
			if core != nil || e != api.ErrMet {
				t.Fatalf("%v: the core %v, %d, of rules that can be met", m.p, core, e)
			}
		} else if !slices.Equal(core, cores[0]) || e != api.OK {
			t.Fatalf("%v: the core %v, %d, not %v", m.p, core, e, cores[0])
		}
		if len(cores) > 1 && len(releases) > 1 {
			several++
		}
		for _, core := range cores {
			sizes[len(core)]++
		}
	}
	if met < 60 || several < 40 || sizes[1] < 60 || sizes[2] < 60 || sizes[3] < 10 {
		t.Errorf("%d times all rules can be met, %d times there are several cores and releases; cores by their size: %v", met, several, sizes)
	}
}

// P7.1: whether sets exclude, and the cores that they shrink to, in whichever order their rules come, and how often.
func TestExcludesAndShrink(t *testing.T) {
	r := rand.New(rand.NewSource(2))
	excluding, less := 0, 0
	for range 300 {
		m := modelOf(t, anyProblem(r, 130, r.Intn(9)))
		for set, meets := range m.meets {
			rules := m.anySet(r, set)
			before := slices.Clone(rules)
			is, e := conflict.Excludes(m.p, rules)
			if is == meets || e != api.OK {
				t.Fatalf("%v: %v excludes: %v, %d", m.p, rules, is, e)
			}
			left, e := conflict.Shrink(m.p, rules)
			if meets {
				if left != nil || e != api.ErrMet {
					t.Fatalf("%v: %v is shrunk to %v, %d", m.p, rules, left, e)
				}
			} else {
				if !slices.Equal(left, m.rules(m.shrunk(set))) || e != api.OK || !m.isCore(left) {
					t.Fatalf("%v: %v is shrunk to %v, %d, not %v", m.p, rules, left, e, m.rules(m.shrunk(set)))
				}
				excluding++
				if len(left) < len(m.rules(set)) {
					less++
				}
			}
			for i := range left {
				left[i] = -7
			}
			if !slices.Equal(rules, before) {
				t.Fatal("a set is changed")
			}
		}
	}
	if excluding < 500 || less < 300 {
		t.Errorf("%d sets exclude, %d of them have rules too many", excluding, less)
	}
}

// P7.1: the chapter's examples 1 to 3.
func TestCoresExamples(t *testing.T) {
	p := example(t)
	limited(t, "Cores", [][]int{{2}, {0, 1}}, func(limit int) ([][]int, api.Errno) { return conflict.Cores(p, limit) })
	limited(t, "Releases", [][]int{{0, 2}, {1, 2}}, func(limit int) ([][]int, api.Errno) { return conflict.Releases(p, limit) })
	if core, e := conflict.Core(p); !slices.Equal(core, []int{2}) || e != api.OK {
		t.Error("Core", core, e)
	}
	for _, x := range []struct {
		rules []int
		is    bool
		left  []int
	}{
		{[]int{0, 4}, false, nil}, {[]int{1, 0, 1}, true, []int{0, 1}}, {[]int{0, 1, 2, 4}, true, []int{2}}, {[]int{0, 1, 4}, true, []int{0, 1}},
		{nil, false, nil}, {[]int{}, false, nil}, {[]int{2, 2, 2, 2}, true, []int{2}}, {[]int{4, 1, 4, 0}, true, []int{0, 1}},
	} {
		e := api.OK
		if !x.is {
			e = api.ErrMet
		}
		is, f := conflict.Excludes(p, x.rules)
		left, g := conflict.Shrink(p, x.rules)
		if is != x.is || f != api.OK || !slices.Equal(left, x.left) || g != e {
			t.Errorf("%v: Excludes %v, %d; Shrink %v, %d", x.rules, is, f, left, g)
		}
	}
}

// P7.1: if all rules can be met the empty set is the only release, and there is no core; weighed rules are not met or broken.
func TestMet(t *testing.T) {
	weighed := sun(t, "weigh 1 apart ann bob 2\nweigh 1000 limit - 0\n")
	seats := feast(0, 4)
	for _, p := range []api.Problem{{}, seats, sun(t, ""), sun(t, "hard beside ann bob\nhard across ann cid\n"), weighed} {
		limited(t, "Cores", nil, func(limit int) ([][]int, api.Errno) { return conflict.Cores(p, limit) })
		limited(t, "Releases", [][]int{nil}, func(limit int) ([][]int, api.Errno) { return conflict.Releases(p, limit) })
		if core, e := conflict.Core(p); core != nil || e != api.ErrMet {
			t.Error("Core", core, e)
		}
		if is, e := conflict.Excludes(p, rule.Hard(p)); is || e != api.OK {
			t.Error("Excludes", is, e)
		}
		if left, e := conflict.Shrink(p, rule.Hard(p)); left != nil || e != api.ErrMet {
			t.Error("Shrink", left, e)
		}
	}
	// Nobody is to be seated, and yet a rule is broken.
	seats.Rules = rulesOf(t, "hard fill - 0\nhard fill - 1\nhard mix -\nhard fill ta 2\n")
	limited(t, "Cores", [][]int{{1}, {3}}, func(limit int) ([][]int, api.Errno) { return conflict.Cores(seats, limit) })
	limited(t, "Releases", [][]int{{1, 3}}, func(limit int) ([][]int, api.Errno) { return conflict.Releases(seats, limit) })
}

// P7.1: a rule that pins a seat stands for itself, whichever rules are left out: no table is turned for it.
func TestCoresPinned(t *testing.T) {
	p := sun(t, "hard seat ann sun 0\nhard seat ann sun 1\nweigh 1 seat ann sun 2\nhard seat bob sun 3\nhard seat bob sun 0\nhard honour -\n")
	p.Class = []int{1, 0, 2}
	m := modelOf(t, p)
	cores := [][]int{{0, 1}, {0, 4}, {0, 5}, {3, 4}}
	if !equal(m.cores(), cores) {
		t.Fatal("the model", m.cores())
	}
	limited(t, "Cores", cores, func(limit int) ([][]int, api.Errno) { return conflict.Cores(p, limit) })
	limited(t, "Releases", m.releases(), func(limit int) ([][]int, api.Errno) { return conflict.Releases(p, limit) })
}

// P7.1: of two sets the one with fewer elements comes first, and of equally many the lesser one, by their numbers.
func TestCoresInOrder(t *testing.T) {
	seats := "hard seat ann sun 0\nhard seat ann sun 1\n"
	p := sun(t, seats+"weigh 1 mix -\n"+strings.Repeat("weigh 2 mix -\n", 6)+seats+"hard apart ann bob 2\nhard limit sun 2\n")
	// The rules 0 and 9, and 1 and 10, ask the same; each of 11 and 12 excludes alone.
	limited(t, "Cores", [][]int{{11}, {12}, {0, 1}, {0, 10}, {1, 9}, {9, 10}}, func(limit int) ([][]int, api.Errno) { return conflict.Cores(p, limit) })
	limited(t, "Releases", [][]int{{0, 9, 11, 12}, {1, 10, 11, 12}}, func(limit int) ([][]int, api.Errno) { return conflict.Releases(p, limit) })
	left, e := conflict.Shrink(p, []int{10, 9, 1, 0})
	if !slices.Equal(left, []int{9, 10}) || e != api.OK {
		t.Error("Shrink", left, e)
	}
}

// P7.1: problems of nearly MaxWork plans, with MaxHard hard rules.
func TestCoresNearLimit(t *testing.T) {
	// Two guests on 141 seats at six tables; seven guests on as many seats.
	pair, seven := feast(2, 141), feast(7, 7)
	pair.Rules = rulesOf(t, "hard beside a aa\nhard at a ta\nhard at aa tb\nhard across a aa\nhard near a aa 1\nhard fill tf 1\nhard limit ta 1\nhard together a aa\nhard seat a ta 5\nhard apart a aa 3\n")
	seven.Rules = rulesOf(t, "hard beside a aa\nhard beside a aaa\nhard beside a aaaa\nhard beside aa aaa\nhard seat a ta 0\nhard seat aa ta 2\nhard across a aa\nhard apart a aaaaa 3\nhard apart a aaaaaa 3\nhard apart a aaaaaaa 3\n")
	for _, p := range []api.Problem{pair, seven} {
		m := modelOf(t, p)
		if len(m.hard) != conflict.MaxHard || len(m.plans) < 5000 || len(m.cores()) < 5 {
			t.Fatal(len(m.hard), len(m.plans), m.cores())
		}
		limited(t, "Cores", m.cores(), func(limit int) ([][]int, api.Errno) { return conflict.Cores(p, limit) })
		limited(t, "Releases", m.releases(), func(limit int) ([][]int, api.Errno) { return conflict.Releases(p, limit) })
		if left, e := conflict.Shrink(p, m.hard); !slices.Equal(left, m.rules(m.shrunk(1<<conflict.MaxHard-1))) || e != api.OK {
			t.Error("Shrink", left, e)
		}
	}
}

// P7.1: a problem's error comes first, then ErrLarge, then the others.
func TestCoresErrors(t *testing.T) {
	ask := func(p api.Problem, asked api.Errno) {
		t.Helper()
		for _, rules := range [][]int{nil, {0}, {10}, {-1}, {64}} {
			is, e := conflict.Excludes(p, rules)
			left, f := conflict.Shrink(p, rules)
			if is || e != asked || left != nil || f != asked {
				t.Errorf("%v: Excludes %v, %d; Shrink %v, %d; not %d", rules, is, e, left, f, asked)
			}
		}
		for _, limit := range []int{-1, 0, 99} {
			cores, e := conflict.Cores(p, limit)
			releases, f := conflict.Releases(p, limit)
			if cores != nil || e != asked || releases != nil || f != asked {
				t.Errorf("Cores %v, %d; Releases %v, %d; not %d", cores, e, releases, f, asked)
			}
		}
		if core, e := conflict.Core(p); core != nil || e != asked {
			t.Errorf("Core %v, %d, not %d", core, e, asked)
		}
	}
	for _, x := range fails() {
		ask(x.p, x.e)
	}
	for _, p := range larges(t) {
		ask(p, api.ErrLarge)
	}
	p := example(t)
	for _, rules := range [][]int{{3}, {0, 3}, {5}, {-1}, {2, 0, 1, 5}, {math.MinInt}, {math.MaxInt}, {64, 2}} {
		is, e := conflict.Excludes(p, rules)
		left, f := conflict.Shrink(p, rules)
		if is || e != api.ErrArg || left != nil || f != api.ErrArg {
			t.Errorf("%v: Excludes %v, %d; Shrink %v, %d", rules, is, e, left, f)
		}
	}
}

// P7.1: ten hard rules are not too many, however many weighed ones there are, and 20000 plans are not too many.
func TestMaxHard(t *testing.T) {
	if conflict.MaxHard != 10 {
		t.Error("MaxHard is", conflict.MaxHard)
	}
	p := sun(t, strings.Repeat("hard apart ann bob 2\nweigh 1 apart ann bob 2\n", 10)+strings.Repeat("weigh 1 mix -\n", 44))
	cores, e := conflict.Cores(p, 10)
	if len(cores) != 10 || !slices.Equal(cores[9], []int{18}) || e != api.OK {
		t.Error(cores, e)
	}
	releases, e := conflict.Releases(p, 1)
	if !equal(releases, [][]int{{0, 2, 4, 6, 8, 10, 12, 14, 16, 18}}) || e != api.OK {
		t.Error(releases, e)
	}
	p.Rules[1].Weight = 0
	if cores, e := conflict.Cores(p, 99); cores != nil || e != api.ErrLarge {
		t.Error(cores, e)
	}
}
