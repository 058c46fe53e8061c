package rule_test

import (
	"math"
	"math/rand"
	"slices"
	"testing"

	"trestle/api"
	"trestle/rule"
)

// P4.4: the examples of the chapter.
func TestExamples(t *testing.T) {
	for _, x := range []struct {
		part          []int
		line          string
		faults, least int
	}{
		{[]int{0, 1, 2, 6}, "apart anna boris 2", 1, 1},
		{[]int{0, 1, 2, 6}, "apart anna carl 2", 0, 0},
		{[]int{0, 1, 2, 6}, "beside boris carl", 0, 0},
		{[]int{0, 1, 2, 6}, "across anna carl", 1, 1},
		{[]int{0, 1, 2, 6}, "near anna dora 3", 1, 1},
		{[]int{0, 1, 2, 6}, "alternate -", 1, 1},
		{[]int{0, 1, 2, 6}, "host -", 1, 1},
		{[]int{0, 1, 2, 6}, "reach -", 1, 1},
		{[]int{0, 1, 2, 6}, "speak -", 0, 0},
		{[]int{0, 1, 2, 6}, "peace r", 1, 1},
		{[]int{0, 1, 2, 6}, "honour -", 0, 0},
		{[]int{0, 1, 2, 6}, "fill - 2", 1, 1},
		{[]int{0, 1, 2, 6}, "limit r 2", 1, 1},
		{[]int{0, 1, 2, 6}, "together anna boris", 0, 0},
		{[]int{0, 1, 2, 6}, "at dora r", 1, 1},
		{[]int{0, 1, 2, 6}, "seat carl r 2", 0, 0},
		{[]int{2, 1, 0, 3}, "honour r", 3, 3},
		{[]int{2, 1, 0, 3}, "speak r", 1, 1},
		{[]int{6, -1, -1, -1}, "host -", 0, 0},
		{[]int{6, -1, -1, -1}, "fill w 2", 1, 0},
		{[]int{6, -1, -1, -1}, "fill - 2", 3, 0},
		{[]int{6, -1, -1, -1}, "fill - 4", 7, 4},
	} {
		l, _, e := rule.Parse("hard " + x.line + "\n")
		if e != api.OK {
			t.Fatal(x.line, e)
		}
		j := judge(t, dinner(l...))
		if n, least := j.Faults(x.part, 0), j.Least(x.part, 0); n != x.faults || least != x.least {
			t.Errorf("%s in %v: %d faults, %d certain", x.line, x.part, n, least)
		}
	}
	j := judge(t, dinner(api.Rule{Kind: api.Honour, Table: "r"}, api.Rule{Kind: api.Speak, Table: "r"}))
	if l := j.Blame([]int{2, 1, 0, 3}, 0); !slices.Equal(l, []int{0, 1, 2, 3}) {
		t.Error("honour blames", l)
	}
	if l := j.Blame([]int{2, 1, 0, 3}, 1); !slices.Equal(l, []int{3}) {
		t.Error("speak blames", l)
	}
}

// P4.4: what a judge says of partial plans is what the table of kinds says.
func TestJudge(t *testing.T) {
	r := rand.New(rand.NewSource(2))
	faulty := map[api.RuleKind]int{}
	for n := range 3000 {
		p := anyProblem(r)
		j := judge(t, p)
		part := anyPart(r, p, n%2 == 0)
		var score, broken []int
		cost, floor, dead := 0, 0, -1
		for i, x := range p.Rules {
			list, least := faultsOf(p, part, x), leastOf(p, part, x)
			score = append(score, len(list))
			cost, floor = cost+x.Weight*len(list), floor+x.Weight*least
			if x.Weight == 0 && len(list) > 0 {
				broken = append(broken, i)
			}
			if x.Weight == 0 && least > 0 && dead < 0 {
				dead = i
			}
			if j.Faults(part, i) != len(list) || j.Least(part, i) != least {
				t.Fatalf("%v of %v in %v: %d, %d instead of %d, %d", x, p, part, j.Faults(part, i), j.Least(part, i), len(list), least)
			}
			if got := j.Blame(part, i); !slices.Equal(got, union(list)) {
				t.Fatalf("%v of %v in %v blames %v instead of %v", x, p, part, got, union(list))
			}
			faulty[x.Kind] += len(list)
		}
		right := len(broken) == 0 && !slices.Contains(part, -1)
		if !j.Valid(part) || !slices.Equal(j.Score(part), score) || !slices.Equal(j.Broken(part), broken) || j.Right(part) != right {
			t.Fatalf("%v in %v: %v, %v, %v", part, p, j.Score(part), j.Broken(part), j.Right(part))
		}
		if j.Cost(part) != cost || j.Floor(part) != floor {
			t.Fatalf("%v in %v: %d, %d", part, p, j.Cost(part), j.Floor(part))
		}
		if i, ok := j.Dead(part); ok != (dead >= 0) || i != max(dead, 0) {
			t.Fatalf("%v in %v: %d, %v", part, p, i, ok)
		}
	}
	for k := api.Apart; k <= api.Mix; k++ {
		if faulty[k] < 100 {
			t.Errorf("only %d faults of kind %d", faulty[k], k)
		}
	}
}

// P4.4: Right asks for a plan, in which all hard rules hold, whatever the others say.
func TestRight(t *testing.T) {
	together := api.Rule{Kind: api.Together, A: "anna", B: "boris"}
	weighed := together
	weighed.Weight = 5
	for _, x := range []struct {
		rules []api.Rule
		part  []int
		want  bool
	}{
		{nil, []int{0, 1, 2, 3}, true}, {nil, []int{0, 1, 2, -1}, false}, {nil, []int{-1, -1, -1, -1}, false}, {nil, []int{0, 1, 1, 2}, false},
		{[]api.Rule{together}, []int{0, 1, 6, 7}, true}, {[]api.Rule{together}, []int{0, 6, 1, 7}, false}, {[]api.Rule{together}, []int{0, 1, 6, -1}, false},
		{[]api.Rule{weighed}, []int{0, 6, 1, 7}, true}, {[]api.Rule{weighed, together}, []int{0, 6, 1, 7}, false},
	} {
		if got := judge(t, dinner(x.rules...)).Right(x.part); got != x.want {
			t.Errorf("Right(%v) with %v: %v", x.part, x.rules, got)
		}
	}
	empty := judge(t, api.Problem{Tables: dinner().Tables, Rules: []api.Rule{{Kind: api.Fill, Table: "w", N: 3, Weight: 2}, {Kind: api.HostAt}}})
	if !empty.Right(nil) || !empty.Valid([]int{}) || empty.Cost(nil) != 6 || empty.Floor(nil) != 6 || !slices.Equal(empty.Score(nil), []int{3, 0}) || len(empty.Blame(nil, 0)) != 0 {
		t.Error("nobody is invited")
	}
	if _, dead := empty.Dead(nil); dead || empty.Right([]int{0}) {
		t.Error("nobody is invited, but somebody seated")
	}
}

// P4.4: the greatest numbers of faults, and the largest halls.
func TestGreatFaults(t *testing.T) {
	p := great()
	p.Rules = slices.Repeat([]api.Rule{{Kind: api.Fill, N: 24, Weight: 1000}}, 64)
	nobody := slices.Repeat([]int{-1}, 64)
	all := make([]int, 64)
	for x := range all {
		all[x] = x
	}
	j := judge(t, p)
	if j.Cost(nobody) != 64*384*1000 || j.Floor(nobody) != 64*320*1000 || j.Cost(all) != 64*320*1000 || j.Floor(all) != 64*320*1000 {
		t.Error(j.Cost(nobody), j.Floor(nobody), j.Cost(all))
	}
	p.Rules = []api.Rule{{Kind: api.Limit}, {Kind: api.Fill, N: 0}, {Kind: api.Limit, N: 24}}
	if s := judge(t, p).Score(all); !slices.Equal(s, []int{64, 0, 0}) {
		t.Error(s)
	}
}

// P4.4, P4.5: lists that are no partial plans, rules that do not exist, and objects that are no judges.
func TestNoJudgement(t *testing.T) {
	rules := []api.Rule{{Kind: api.Fill, N: 24}, {Kind: api.Fill, N: 24, Weight: 1}, {Kind: api.Reach}}
	j := judge(t, dinner(rules...))
	good := []int{0, 1, 2, 3}
	nothing := func(what string, j *rule.Judge, part []int) {
		t.Helper()
		dead, is := j.Dead(part)
		if j.Valid(part) || len(j.Score(part)) != 0 || len(j.Broken(part)) != 0 || j.Right(part) || j.Cost(part) != 0 || j.Floor(part) != 0 || dead != 0 || is {
			t.Errorf("%s: %v is judged", what, part)
		}
		for i := range rules {
			if j.Faults(part, i) != 0 || j.Least(part, i) != 0 || len(j.Blame(part, i)) != 0 {
				t.Errorf("%s: rule %d of %v is judged", what, i, part)
			}
		}
	}
	for _, part := range [][]int{nil, {}, {0, 1, 2}, {0, 1, 2, 3, 4}, {0, 1, 2, 8}, {0, 1, 2, -2}, {-3, 1, 2, 3}, {0, 1, 2, 0}, {5, 5, -1, -1}, {0, 1, 2, math.MinInt}, {math.MaxInt, -1, -1, -1}} {
		nothing("a judge", j, part)
	}
	other := *j
	for what, no := range map[string]*rule.Judge{"nil": nil, "a new one": {}, "a copy": &other} {
		nothing(what, no, good)
		nothing(what, no, nil)
		if !sameProblem(no.Problem(), api.Problem{}) {
			t.Errorf("%s has a problem", what)
		}
	}
	for _, i := range []int{math.MinInt, -1, 3, 4, math.MaxInt} {
		if j.Faults(good, i) != 0 || j.Least(good, i) != 0 || len(j.Blame(good, i)) != 0 {
			t.Errorf("there is a rule %d", i)
		}
	}
	if j.Faults(good, 0) == 0 || j.Faults(good, 2) == 0 || !j.Valid([]int{-1, -1, -1, -1}) || !j.Valid([]int{7, 6, 5, -1}) {
		t.Error("a partial plan is not judged")
	}
}

// P4.5: whom the faults of tables blame: all who sit there, or nobody.
func TestBlameAtTables(t *testing.T) {
	p := dinner(api.Rule{Kind: api.HostAt}, api.Rule{Kind: api.Fill, N: 2}, api.Rule{Kind: api.Limit, N: 1}, api.Rule{Kind: api.Fill, Table: "w", N: 1}, api.Rule{Kind: api.Limit, Table: "w"})
	j := judge(t, p)
	for _, x := range []struct {
		part []int
		want [][]int
	}{
		{[]int{7, 2, 0, -1}, [][]int{{1, 2}, {0}, {1, 2}, nil, {0}}},
		{[]int{0, 3, 4, 5}, [][]int{nil, nil, {0, 1, 2, 3}, nil, nil}},
		{[]int{-1, 6, -1, 0}, [][]int{{1, 3}, {1, 3}, nil, nil, {1}}},
		{[]int{-1, -1, -1, -1}, [][]int{nil, nil, nil, nil, nil}},
	} {
		for i, want := range x.want {
			if got := j.Blame(x.part, i); !slices.Equal(got, want) {
				t.Errorf("rule %d in %v blames %v", i, x.part, got)
			}
		}
	}
}

// P4.4: New keeps nothing of its argument and gives nothing of its own away; no method changes a partial plan.
func TestMemory(t *testing.T) {
	r := rand.New(rand.NewSource(3))
	for range 200 {
		p := anyProblem(r)
		before := copied(p)
		j := judge(t, p)
		part := anyPart(r, p, false)
		kept := slices.Clone(part)
		score := j.Score(part)
		spoil(p)
		if !sameProblem(j.Problem(), before) || !slices.Equal(j.Score(part), score) {
			t.Fatal("the argument of New is kept")
		}
		spoil(j.Problem())
		if !sameProblem(j.Problem(), before) || !slices.Equal(j.Score(part), score) {
			t.Fatal("the result of Problem is kept")
		}
		for i := range before.Rules {
			for _, list := range [][]int{j.Blame(part, i), j.Score(part), j.Broken(part)} {
				for k := range list {
					list[k] = -7
				}
			}
		}
		if !slices.Equal(part, kept) || !slices.Equal(j.Score(part), score) {
			t.Fatal("a partial plan is changed")
		}
	}
}
