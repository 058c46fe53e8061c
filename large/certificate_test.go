package large_test

import (
	"math"
	"math/rand"
	"slices"
	"testing"

	"trestle/api"
	"trestle/large"
)

// build returns the certificate of a problem, made of the model's parts.
func (m *model) build(rounds int) (api.Certificate, api.Errno) {
	packs, e := m.packs()
	if e != api.OK {
		return api.Certificate{}, e
	}
	x, _ := m.improve(m.start(), rounds)
	if best, e := m.arrange(m.tables(x)); e == api.OK {
		x = best.Plan
	}
	if !m.judge.Right(x) {
		return api.Certificate{}, api.ErrStuck
	}
	c := api.Certificate{Plan: x, Cost: m.judge.Cost(x), Packs: packs}
	for _, pack := range packs {
		c.Bound += pack.Cost
	}
	return c, api.OK
}

// P8.7: certificates, with the plan that moves lead to, or a better one at the same tables.
func TestBuild(t *testing.T) {
	r := rand.New(rand.NewSource(8))
	seen, arranged, improved := map[api.Errno]int{}, 0, 0
	for range 500 {
		m := modelOf(t, anyProblem(r, 700, r.Intn(9)))
		for _, rounds := range []int{math.MinInt, 0, 1, 2, math.MaxInt} {
			c, e := large.Build(m.p, rounds)
			want, f := m.build(rounds)
			if show(c) != show(want) || e != f {
				t.Fatalf("%v: %d rounds: %v, %d, not %v, %d", m.p, rounds, c, e, want, f)
			}
			seen[e]++
			x, n := m.improve(m.start(), rounds)
			if e == api.OK && !slices.Equal(c.Plan, x) {
				arranged++
			}
			if e == api.OK && n > 0 {
				improved++
			}
		}
	}
	if seen[api.OK] < 600 || seen[api.ErrNone] < 100 || seen[api.ErrStuck] < 40 || arranged < 30 || improved < 100 {
		t.Error(seen, arranged, improved)
	}
}

// P8.7: the chapter's example 4, a plan that Arrange cannot make, and problems without a certificate.
func TestBuildExamples(t *testing.T) {
	for _, x := range []struct {
		text   string
		rounds int
		want   api.Certificate
		e      api.Errno
	}{
		{asked, 9, api.Certificate{Plan: []int{0, 1, 3, 4}, Cost: 2, Packs: []api.Pack{{Rules: []int{1, 2, 3}}}}, api.OK},
		// Without moves dora alone is at w, and Arrange leaves her there.
		{asked, 0, api.Certificate{Plan: []int{0, 1, 2, 3}, Cost: 6, Packs: []api.Pack{{Rules: []int{1, 2, 3}}}}, api.OK},
		{"", 9, api.Certificate{Plan: []int{0, 1, 2, 3}}, api.OK},
		{"weigh 2 at anna w\nweigh 3 at anna r\nweigh 4 fill - 3\n", 9, api.Certificate{Plan: []int{0, 1, 2, 3}, Cost: 10, Packs: []api.Pack{{Rules: []int{0, 1, 2}, Cost: 10}}, Bound: 10}, api.OK},
		{"weigh 2 at anna w\nhard limit - 0\n", 9, api.Certificate{}, api.ErrNone},
		// No pack names all four, and so no pack tells that there is no right plan.
		{"weigh 2 at anna w\nhard at boris r\nhard at boris w\n", 9, api.Certificate{}, api.ErrStuck},
		{"hard fill - 3\n", 9, api.Certificate{}, api.ErrStuck},
	} {
		p := four(t, x.text)
		c, e := large.Build(p, x.rounds)
		if show(c) != show(x.want) || e != x.e || large.Gap(c) != x.want.Cost-x.want.Bound {
			t.Errorf("%q, %d rounds: %v, %d", x.text, x.rounds, c, e)
		}
	}
	// The work of a part of eight guests at a table with eight seats is too large, but a plan can be shown nevertheless.
	p := feast(8, 8)
	p.Rules = rulesOf(t, "weigh 1 seat a ta 7\nweigh 1 seat aa ta 7\nhard seat aaa ta 0\n")
	if _, e := large.Arrange(p, slices.Repeat([]int{0}, 8)); e != api.ErrLarge {
		t.Error(e)
	}
	c, e := large.Build(p, 99)
	if !slices.Equal(c.Plan, []int{7, 1, 0, 2, 3, 4, 5, 6}) || c.Cost != 1 || c.Bound != 0 || e != api.OK || large.CheckCertificate(p, c) != api.OK {
		t.Error(c, e)
	}
	if c, e := large.Build(api.Problem{}, 1); show(c) != show(api.Certificate{}) || e != api.OK {
		t.Error(c, e)
	}
}

// P8.7: the error of a problem comes first, then ErrLarge, then ErrNone.
func TestBuildErrors(t *testing.T) {
	for _, x := range fails() {
		if c, e := large.Build(x.p, 9); !nothing(c) || e != x.e {
			t.Error(c, e, x.e)
		}
	}
	for _, x := range []struct {
		guests int
		text   string
		e      api.Errno
	}{
		{5, "weigh 1 mix -\nhard fill - 24\n", api.ErrLarge}, {4, "weigh 1 mix -\nhard fill - 24\n", api.ErrNone},
		{4, "hard fill - 24\n", api.ErrStuck}, {4, "weigh 1 mix -\nhard at a ta\nhard at a tb\n", api.ErrStuck},
	} {
		p := feast(x.guests, 256)
		p.Rules = rulesOf(t, x.text)
		if c, e := large.Build(p, 9); !nothing(c) || e != x.e {
			t.Errorf("%q: %v, %d, not %d", x.text, c, e, x.e)
		}
	}
}

// P8.8: what is wrong first with a certificate.
func TestCheckCertificate(t *testing.T) {
	text := "hard together anna boris\nweigh 5 beside carl dora\nweigh 2 at carl w\nweigh 1 fill w 2\nweigh 3 at carl r\n"
	p := four(t, text)
	good := api.Certificate{Plan: []int{0, 1, 3, 4}, Cost: 3, Packs: []api.Pack{{Rules: []int{2, 4}, Cost: 2}, {Rules: []int{1, 3}}}, Bound: 2}
	if e := large.CheckCertificate(p, good); e != api.OK || large.Gap(good) != 1 {
		t.Fatal(e)
	}
	pack := func(cost int, rules ...int) api.Pack { return api.Pack{Rules: rules, Cost: cost} }
	for i, x := range []struct {
		plan  []int
		cost  int
		packs []api.Pack
		bound int
		e     api.Errno
	}{
		{[]int{0, 1, 3, 4}, 3, nil, 0, api.OK}, {[]int{0, 1, 3, 4}, 3, []api.Pack{pack(2, 2, 4)}, 2, api.OK}, {[]int{3, 4, 0, 1}, 2, []api.Pack{pack(2, 1, 2, 3, 4)}, 2, api.OK},
		{[]int{0, 1, 3, 4}, 3, []api.Pack{pack(0, 4), pack(0, 2)}, 0, api.OK}, {[]int{0, 1, 2, 3}, 8, []api.Pack{pack(0, 3)}, 0, api.OK},
		// The plan comes first.
		{[]int{0, 1, 3}, 9, []api.Pack{pack(9)}, 9, api.ErrStale}, {nil, 9, nil, 0, api.ErrStale}, {[]int{0, 1, 3, -1}, 9, []api.Pack{pack(9)}, 9, api.ErrMiss},
		{[]int{0, 1, 3, 5}, 9, nil, 0, api.ErrSeat}, {[]int{0, 3, 3, 5}, 9, nil, 0, api.ErrTaken},
		// Then whether it is right, then what it costs.
		{[]int{0, 3, 1, 2}, 9, []api.Pack{pack(9)}, 9, api.ErrStuck}, {[]int{0, 3, 1, 2}, 6, nil, 0, api.ErrStuck},
		{[]int{0, 1, 3, 4}, 2, []api.Pack{pack(9)}, 9, api.ErrGap}, {[]int{0, 1, 3, 4}, 4, nil, 0, api.ErrGap}, {[]int{0, 1, 3, 4}, -3, nil, 0, api.ErrGap}, {[]int{0, 1, 3, 4}, math.MaxInt, nil, 0, api.ErrGap},
		// Then the packs, then what they cost.
		{[]int{0, 1, 3, 4}, 3, []api.Pack{pack(9, 2, 4), pack(9)}, 9, api.ErrPack}, {[]int{0, 1, 3, 4}, 3, []api.Pack{pack(0, 0)}, 0, api.ErrPack},
		{[]int{0, 1, 3, 4}, 3, []api.Pack{pack(2, 2, 4), pack(0, 4)}, 2, api.ErrPack}, {[]int{0, 1, 3, 4}, 3, []api.Pack{pack(2, 4, 2)}, 2, api.ErrPack},
		{[]int{0, 1, 3, 4}, 3, []api.Pack{pack(1, 2, 4)}, 1, api.ErrGap}, {[]int{0, 1, 3, 4}, 3, []api.Pack{pack(3, 2, 4)}, 2, api.ErrGap}, {[]int{0, 1, 3, 4}, 3, []api.Pack{pack(2, 2, 4)}, 1, api.ErrGap},
		{[]int{0, 1, 3, 4}, 3, []api.Pack{pack(2, 2, 4)}, 3, api.ErrGap}, {[]int{0, 1, 3, 4}, 3, nil, 1, api.ErrGap}, {[]int{0, 1, 3, 4}, 3, nil, -1, api.ErrGap},
		{[]int{0, 1, 3, 4}, 3, []api.Pack{pack(1, 2, 4), pack(1, 1, 3)}, 2, api.ErrGap}, {[]int{0, 1, 3, 4}, 3, []api.Pack{pack(2, 2, 4), pack(math.MinInt, 1)}, 2, api.ErrGap},
	} {
		if e := large.CheckCertificate(p, api.Certificate{Plan: x.plan, Cost: x.cost, Packs: x.packs, Bound: x.bound}); e != x.e {
			t.Errorf("%d: %v: %d, not %d", i, x, e, x.e)
		}
	}
	// A certificate is checked of problems, too, that are too large for moves.
	q := feast(64, 384)
	q.Rules = rulesOf(t, "weigh 4 seat a tb 0\nweigh 3 seat a tb 0\nweigh 2 beside a aa\nhard at aa ta\n")
	for _, x := range []struct {
		packs []api.Pack
		e     api.Errno
	}{{[]api.Pack{pack(0, 0, 1)}, api.OK}, {[]api.Pack{pack(0, 0), pack(0, 2)}, api.ErrLarge}, {[]api.Pack{pack(5, 0), pack(0)}, api.ErrPack}} {
		if e := large.CheckCertificate(q, api.Certificate{Plan: all(64), Cost: 7, Packs: x.packs}); e != x.e {
			t.Error(x.packs, e)
		}
	}
	for _, x := range fails() {
		if e := large.CheckCertificate(x.p, good); e != x.e {
			t.Error(e, x.e)
		}
	}
}

// P8.8: gaps, of certificates that are right, and of any others.
func TestGap(t *testing.T) {
	for _, x := range [][3]int{{0, 0, 0}, {7, 3, 4}, {3, 7, -4}, {1000, 0, 1000}, {-1, -1, 0}} {
		if n := large.Gap(api.Certificate{Cost: x[0], Bound: x[1]}); n != x[2] {
			t.Error(x, n)
		}
	}
}
