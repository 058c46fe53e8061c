package large_test

import (
	"math"
	"math/rand"
	"slices"
	"strings"
	"testing"

	"trestle/api"
	"trestle/large"
	"trestle/rule"
)

// anyPack returns some weighed rules of a problem, most often a pack.
func anyPack(r *rand.Rand, p api.Problem) []int {
	var list []int
	for _, i := range rule.Weighed(p) {
		if r.Intn(2) == 0 {
			list = append(list, i)
		}
	}
	if r.Intn(9) == 0 {
		list = append(list, pick(r, strange()...))
	}
	return list
}

// P8.6: what packs cost.
func TestPackCost(t *testing.T) {
	r := rand.New(rand.NewSource(6))
	seen, costs := map[api.Errno]int{}, map[bool]int{}
	for range 600 {
		m := modelOf(t, anyProblem(r, 400, 1+r.Intn(8)))
		pack := anyPack(r, m.p)
		cost, e := large.PackCost(m.p, pack)
		want, f := m.packCost(pack)
		if cost != want || e != f {
			t.Fatalf("%v: %v costs %d, %d, not %d, %d", m.p, pack, cost, e, want, f)
		}
		seen[e]++
		costs[cost > 0]++
	}
	if seen[api.OK] < 200 || seen[api.ErrNone] < 30 || seen[api.ErrPack] < 50 || costs[true] < 50 {
		t.Error(seen, costs)
	}
}

// P8.6: the rules of the problems that packs are of, and the packs, with their costs.
func TestPacks(t *testing.T) {
	r := rand.New(rand.NewSource(7))
	seen, lengths, sizes := map[api.Errno]int{}, map[int]int{}, map[int]int{}
	for range 300 {
		m := modelOf(t, anyProblem(r, 4000, 1+r.Intn(9)))
		packs, e := large.Packs(m.p)
		want, f := m.packs()
		if show(packs) != show(want) || e != f {
			t.Fatalf("%v: %v, %d, not %v, %d", m.p, packs, e, want, f)
		}
		seen[e]++
		lengths[len(packs)]++
		for _, pack := range packs {
			sizes[len(pack.Rules)]++
		}
	}
	if seen[api.OK] < 150 || seen[api.ErrNone] < 15 || lengths[2] < 20 || lengths[3] < 10 || sizes[1] < 50 || sizes[2] < 30 || sizes[3] < 30 {
		t.Error(seen, lengths, sizes)
	}
}

// P8.6: the chapter's example 4, and packs of guests that are not all.
func TestPackExamples(t *testing.T) {
	far := "hard at anna w\nhard at carl w\nweigh 5 beside carl dora\nweigh 2 at carl r\nweigh 9 mix -\nweigh 3 apart anna boris 0\nweigh 4 together anna boris\n"
	for _, x := range []struct {
		text  string
		rules []int
		cost  int
		e     api.Errno
	}{
		{asked, []int{1, 2, 3}, 0, api.OK}, {asked, []int{1}, 0, api.OK}, {asked, []int{3}, 0, api.OK}, {asked, []int{1, 3}, 0, api.OK},
		{asked, []int{0}, 0, api.ErrPack}, {asked, []int{0, 1}, 0, api.ErrPack}, {asked, nil, 0, api.ErrPack}, {asked, []int{}, 0, api.ErrPack},
		{asked, []int{2, 1}, 0, api.ErrPack}, {asked, []int{1, 1}, 0, api.ErrPack}, {asked, []int{4}, 0, api.ErrPack}, {asked, []int{-1}, 0, api.ErrPack},
		{asked, []int{1, 2, 3, 4}, 0, api.ErrPack}, {asked, []int{math.MinInt}, 0, api.ErrPack}, {asked, []int{1, math.MaxInt}, 0, api.ErrPack},
		{far, []int{2}, 0, api.OK}, {far, []int{3}, 2, api.OK}, {far, []int{2, 3}, 2, api.OK}, {far, []int{5, 6}, 3, api.OK}, {far, []int{2, 3, 5, 6}, 11, api.OK},
		// Only those who are named sit: whoever might come fills tables, is a host, and speaks with somebody.
		{"weigh 7 at anna r\nweigh 3 fill r 3\nweigh 3 fill w 2\n", []int{0}, 0, api.OK}, {"weigh 7 at anna r\nweigh 3 fill - 3\nweigh 2 limit r 2\n", []int{1, 2}, 6, api.OK},
		{"weigh 7 at anna r\nhard fill r 3\nhard fill w 1\n", []int{0}, 0, api.OK}, {"weigh 7 at anna r\nhard fill - 3\n", []int{0}, 0, api.ErrNone},
		{"weigh 7 at anna r\nhard fill w 2\nhard speak -\n", []int{0}, 0, api.OK},
		{"weigh 7 at anna r\nhard host -\n", []int{0}, 0, api.ErrNone},
		{"weigh 7 at anna r\nhard limit r 0\n", []int{0}, 7, api.OK}, {"weigh 7 at anna r\nhard limit - 0\n", []int{0}, 0, api.ErrNone},
		// Of rules that name nobody nothing is asked but that no hard rule is certainly broken.
		{"weigh 7 mix -\nhard limit - 0\n", []int{0}, 0, api.OK}, {"weigh 7 mix -\nhard fill - 4\n", []int{0}, 0, api.ErrNone},
	} {
		if cost, e := large.PackCost(four(t, x.text), x.rules); cost != x.cost || e != x.e {
			t.Errorf("%q: %v: %d, %d, not %d, %d", x.text, x.rules, cost, e, x.cost, x.e)
		}
	}
	for _, x := range []struct {
		text  string
		packs []api.Pack
		e     api.Errno
	}{
		{asked, []api.Pack{{Rules: []int{1, 2, 3}}}, api.OK}, {"", nil, api.OK}, {"hard fill w 4\n", nil, api.OK},
		{far, []api.Pack{{Rules: []int{2, 3}, Cost: 2}, {Rules: []int{4}}, {Rules: []int{5, 6}, Cost: 3}}, api.OK},
		// The first pack with a guest in common is meant, though not the first of all, and rules that name nobody join none.
		{"weigh 1 mix -\nweigh 1 at anna r\nweigh 1 mix -\nweigh 1 at boris r\nweigh 1 beside boris anna\nweigh 1 at boris w\nweigh 1 at anna w\n",
			[]api.Pack{{Rules: []int{0}}, {Rules: []int{1, 4, 5, 6}, Cost: 1}, {Rules: []int{2}}, {Rules: []int{3}}}, api.OK},
		{"weigh 7 at anna r\nhard limit - 0\n", nil, api.ErrNone}, {"weigh 7 mix -\nweigh 7 at anna r\nhard limit - 0\n", nil, api.ErrNone}, {"weigh 7 mix -\nhard limit - 0\n", []api.Pack{{Rules: []int{0}}}, api.OK},
	} {
		if packs, e := large.Packs(four(t, x.text)); show(packs) != show(x.packs) || e != x.e {
			t.Errorf("%q: %v, %d, not %v, %d", x.text, packs, e, x.packs, x.e)
		}
	}
}

// P8.6: a pack that Packs makes has at most MaxPack ways, also after a rule has joined it.
func TestMaxPack(t *testing.T) {
	if large.MaxPack != 500 {
		t.Error("MaxPack is", large.MaxPack)
	}
	pair, triple := "weigh 1 together a aa\nweigh 1 at a ta\n", "weigh 1 at a ta\nweigh 1 at aaa ta\nweigh 1 together a aa\nweigh 1 together aa aaa\nweigh 1 together aaa a\n"
	for _, x := range []struct {
		seats int
		text  string
		packs [][]int
	}{
		// 22 times 21 are 462 ways, 23 times 22 are 506; 8 times 7 times 6 are 336, 9 times 8 times 7 are 504.
		{22, pair, [][]int{{0, 1}}}, {23, pair, [][]int{{1}}}, {384, pair, [][]int{{1}}},
		{8, triple, [][]int{{0, 2, 3, 4}, {1}}}, {9, triple, [][]int{{0, 2}, {1, 3}, {4}}},
		// Those who have a court are 65 in no hall, and 64 of them in this one have more ways than numbers can tell.
		{384, "weigh 1 mix -\nweigh 1 at a ta\nweigh 1 limit ta 2\n", [][]int{{1}}},
	} {
		p := feast(min(x.seats, 64), x.seats)
		for g := range p.Guests {
			p.Guests[g].Court = "spain"
		}
		p.Rules = rulesOf(t, x.text)
		packs, e := large.Packs(p)
		var rules [][]int
		for _, pack := range packs {
			rules = append(rules, pack.Rules)
		}
		if show(rules) != show(x.packs) || e != api.OK {
			t.Errorf("%d seats, %q: %v, %d", x.seats, x.text, packs, e)
		}
	}
}

// P8.6: the cost of a pack is known up to MaxWork ways, however large the problem is.
func TestPackLarge(t *testing.T) {
	two, all64 := "weigh 5 beside a aa\nweigh 3 across aa a\n", "weigh 1 mix -\n"
	for _, x := range []struct {
		guests, seats int
		text          string
		rules         []int
		cost          int
		e             api.Errno
	}{
		// 141 times 140 are 19740 ways, 142 times 141 are 20022.
		{64, 141, two, []int{0, 1}, 3, api.OK}, {2, 141, two, []int{1}, 3, api.OK}, {64, 142, two, []int{0, 1}, 0, api.ErrLarge}, {64, 142, two, []int{1}, 0, api.ErrLarge},
		{64, 142, two + "weigh 1 at a tb\n", []int{2}, 0, api.OK}, {64, 384, two, []int{0}, 0, api.ErrLarge}, {64, 384, two, []int{0, 7}, 0, api.ErrPack},
		{64, 384, all64, []int{0}, 0, api.ErrLarge}, {64, 64, all64, []int{0}, 0, api.ErrLarge}, {7, 7, all64, []int{0}, 6, api.OK}, {8, 8, all64, []int{0}, 0, api.ErrLarge},
		{64, 142, two + "hard limit - 0\n", []int{0}, 0, api.ErrLarge}, {64, 141, two + "hard limit - 0\n", []int{0}, 0, api.ErrNone},
	} {
		p := feast(x.guests, x.seats)
		for g := range p.Guests {
			p.Guests[g].Court = "spain"
		}
		p.Rules = rulesOf(t, x.text)
		if cost, e := large.PackCost(p, x.rules); cost != x.cost || e != x.e {
			t.Errorf("%d guests on %d seats, %q: %v: %d, %d, not %d, %d", x.guests, x.seats, x.text, x.rules, cost, e, x.cost, x.e)
		}
		if cost, e := large.Bound(p, []api.Pack{{Rules: x.rules}}); cost != x.cost || e != x.e {
			t.Errorf("%d guests on %d seats, %q: the bound %d, %d", x.guests, x.seats, x.text, cost, e)
		}
	}
}

// P8.6: bounds of packs, which have no rule in common; what they tell as their cost does not matter.
func TestBound(t *testing.T) {
	text := "hard at anna w\nhard at carl w\nweigh 5 beside carl dora\nweigh 2 at carl r\nweigh 9 mix -\nweigh 3 apart anna boris 0\nweigh 4 together anna boris\n"
	p := four(t, text)
	pack := func(rules ...int) api.Pack { return api.Pack{Rules: rules, Cost: 77} }
	for _, x := range []struct {
		packs []api.Pack
		n     int
		e     api.Errno
	}{
		{nil, 0, api.OK}, {[]api.Pack{}, 0, api.OK}, {[]api.Pack{pack(5, 6), pack(2, 3)}, 5, api.OK}, {[]api.Pack{pack(3), pack(2), pack(6), pack(5)}, 2, api.OK},
		{[]api.Pack{pack(2, 3, 5, 6), pack(4)}, 11, api.OK}, {[]api.Pack{pack(5, 6), pack(3, 5)}, 0, api.ErrPack}, {[]api.Pack{pack(3), pack(3)}, 0, api.ErrPack},
		{[]api.Pack{pack(3), pack()}, 0, api.ErrPack}, {[]api.Pack{pack()}, 0, api.ErrPack}, {[]api.Pack{pack(3), pack(6, 5)}, 0, api.ErrPack}, {[]api.Pack{pack(0)}, 0, api.ErrPack},
		{[]api.Pack{pack(3), pack(7)}, 0, api.ErrPack}, {[]api.Pack{pack(-1)}, 0, api.ErrPack}, {[]api.Pack{pack(5, 5)}, 0, api.ErrPack},
	} {
		if n, e := large.Bound(p, x.packs); n != x.n || e != x.e {
			t.Errorf("%v: %d, %d, not %d, %d", x.packs, n, e, x.n, x.e)
		}
	}
	// The first pack with an error decides.
	p = feast(64, 384)
	p.Rules = rulesOf(t, "weigh 1 beside a aa\nweigh 2 at a tb\nhard at a ta\nhard fill ta 1\n")
	for _, x := range []struct {
		packs []api.Pack
		e     api.Errno
	}{
		{[]api.Pack{pack(0), pack()}, api.ErrLarge}, {[]api.Pack{pack(), pack(0)}, api.ErrPack}, {[]api.Pack{pack(1), pack(0), pack(1)}, api.ErrLarge}, {[]api.Pack{pack(1), pack(1), pack(0)}, api.ErrPack},
	} {
		if n, e := large.Bound(p, x.packs); n != 0 || e != x.e {
			t.Errorf("%v: %d, %d, not %d", x.packs, n, e, x.e)
		}
	}
	p.Rules[3] = api.Rule{Kind: api.Limit}
	for _, x := range []struct {
		packs []api.Pack
		e     api.Errno
	}{{[]api.Pack{pack(1), pack(0)}, api.ErrNone}, {[]api.Pack{pack(0), pack(1)}, api.ErrLarge}, {[]api.Pack{pack(1), pack(1)}, api.ErrNone}} {
		if n, e := large.Bound(p, x.packs); n != 0 || e != x.e {
			t.Errorf("%v: %d, %d, not %d", x.packs, n, e, x.e)
		}
	}
}

// P8.6: 64 weighed rules, each of which may be a pack.
func TestPacksOfMany(t *testing.T) {
	p := feast(64, 384)
	text := ""
	for _, g := range p.Guests {
		text += "weigh 2 at " + g.Name + " tb\n"
	}
	p.Rules = rulesOf(t, text)
	packs, e := large.Packs(p)
	if len(packs) != 64 || !slices.Equal(packs[63].Rules, []int{63}) || e != api.OK {
		t.Error(packs, e)
	}
	p.Rules = rulesOf(t, strings.Repeat("weigh 2 at a tb\nweigh 3 at a ta\n", 32))
	packs, e = large.Packs(p)
	if show(packs) != show([]api.Pack{{Rules: all(64), Cost: 64}}) || e != api.OK {
		t.Error(packs, e)
	}
}

// P8.6: the error of a problem comes first.
func TestPackErrors(t *testing.T) {
	for _, x := range fails() {
		for _, rules := range [][]int{nil, {0}, {-1}, {64}} {
			cost, e := large.PackCost(x.p, rules)
			bound, f := large.Bound(x.p, []api.Pack{{Rules: rules}})
			packs, g := large.Packs(x.p)
			if !nothing(cost, bound, packs) || e != x.e || f != x.e || g != x.e {
				t.Error(cost, e, bound, f, packs, g, x.e)
			}
		}
		if bound, e := large.Bound(x.p, nil); bound != 0 || e != x.e {
			t.Error(bound, e, x.e)
		}
	}
}
