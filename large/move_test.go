package large_test

import (
	"math"
	"math/rand"
	"slices"
	"testing"

	"trestle/api"
	"trestle/large"
)

// P8.4: the guests take the seats of the least strain, one after the other.
func TestStart(t *testing.T) {
	r := rand.New(rand.NewSource(4))
	later := 0
	for range 500 {
		m := modelOf(t, anyProblem(r, 100000, r.Intn(12)))
		x, e := large.Start(m.p)
		want := m.start()
		if !slices.Equal(x, want) || e != api.OK {
			t.Fatalf("%v: %v, %d, not %v", m.p, x, e, want)
		}
		if !slices.Equal(x, all(len(x))) {
			later++
		}
	}
	if later < 150 {
		t.Errorf("only %d times somebody takes a later seat", later)
	}
}

// P8.4: the chapter's example 3, and others whose strain the certain faults decide.
func TestStartExamples(t *testing.T) {
	for _, x := range []struct {
		text string
		plan []int
	}{
		{asked, []int{0, 1, 2, 3}}, {"", []int{0, 1, 2, 3}},
		// Faults of hard rules come before any cost.
		{"hard at anna w\nweigh 1000 at anna r\nweigh 1000 seat anna r 0\n", []int{3, 0, 1, 2}},
		// Of two hard rules that exclude each other both seats break one; of three the least faults are sought.
		{"hard at anna w\nhard at anna r\nweigh 1 seat anna w 1\n", []int{4, 0, 1, 2}},
		{"hard at anna w\nhard seat anna r 2\nhard seat anna r 2\n", []int{2, 0, 1, 3}},
		// The fourth guest must fill w, but none of those before.
		{"hard fill w 1\n", []int{0, 1, 2, 3}}, {"hard fill w 2\n", []int{0, 1, 3, 4}}, {"weigh 9 limit r 1\nweigh 8 fill w 2\n", []int{0, 3, 4, 1}},
		// As long as boris may come and sit down anywhere, nobody misses him.
		{"weigh 5 beside anna boris\nweigh 1 across anna boris\n", []int{0, 1, 2, 3}},
		{"weigh 5 apart anna boris 0\nweigh 1 at boris r\n", []int{0, 3, 1, 2}}, {"weigh 1 apart anna boris 0\nweigh 5 at boris r\n", []int{0, 1, 2, 3}},
	} {
		if l, e := large.Start(four(t, x.text)); !slices.Equal(l, x.plan) || e != api.OK {
			t.Errorf("%q: %v, %d, not %v", x.text, l, e, x.plan)
		}
	}
	for _, p := range []api.Problem{{}, feast(0, 384)} {
		x, e := large.Start(p)
		y, n, f := large.Improve(p, nil, 9)
		if len(x) != 0 || e != api.OK || len(y) != 0 || n != 0 || f != api.OK {
			t.Error(x, e, y, n, f)
		}
	}
}

// P8.5: the best moves are done, as many as there are and as many as are asked.
func TestImprove(t *testing.T) {
	r := rand.New(rand.NewSource(5))
	lengths, fewer, swaps := map[int]int{}, 0, 0
	for range 400 {
		m := modelOf(t, anyProblem(r, 100000, r.Intn(12)))
		x := anyPlan(r, m.p)
		before := slices.Clone(x)
		for _, rounds := range []int{math.MinInt, -1, 0, 1, 2, 3, math.MaxInt} {
			y, n, e := large.Improve(m.p, x, rounds)
			want, k := m.improve(x, rounds)
			if !slices.Equal(y, want) || n != k || e != api.OK {
				t.Fatalf("%v: %v, %d rounds: %v, %d, %d, not %v, %d", m.p, x, rounds, y, n, e, want, k)
			}
			if rounds == math.MaxInt {
				lengths[n]++
			} else if n == 1 && rounds == 1 {
				fewer++
				if two := slices.ContainsFunc(x, func(s int) bool { return slices.Index(x, s) != slices.Index(y, s) && slices.Contains(y, s) }); two {
					swaps++
				}
			}
			for g := range y {
				y[g] = -7
			}
			if !slices.Equal(x, before) {
				t.Fatal("the plan is changed")
			}
		}
	}
	if lengths[0] < 50 || lengths[1] < 50 || lengths[2] < 50 || lengths[3] < 10 || fewer < 150 || swaps < 80 {
		t.Error(lengths, fewer, swaps)
	}
}

// P8.5: the chapter's example 3, and what ends after some moves.
func TestImproveExamples(t *testing.T) {
	for _, x := range []struct {
		text       string
		from       []int
		rounds     int
		to         []int
		n          int
		hard, cost int
	}{
		{asked, []int{0, 1, 2, 3}, 9, []int{0, 1, 4, 3}, 1, 0, 2}, {asked, []int{0, 1, 2, 3}, 1, []int{0, 1, 4, 3}, 1, 0, 2},
		{asked, []int{0, 1, 2, 3}, 0, []int{0, 1, 2, 3}, 0, 0, 6}, {asked, []int{0, 1, 2, 3}, -1, []int{0, 1, 2, 3}, 0, 0, 6},
		{"", []int{4, 3, 2, 1}, 9, []int{4, 3, 2, 1}, 0, 0, 0},
		// Each guest takes another one's seat; the first best move comes first, though others are as good.
		{"weigh 1 seat anna r 0\nweigh 1 seat boris r 1\nweigh 1 seat carl r 2\n", []int{1, 2, 0, 3}, 9, []int{0, 1, 2, 3}, 2, 0, 0},
		{"weigh 1 seat anna r 0\nweigh 1 seat boris r 1\nweigh 1 seat carl r 2\n", []int{1, 2, 0, 3}, 1, []int{0, 2, 1, 3}, 1, 0, 2},
		{"weigh 2 seat anna r 0\nweigh 3 seat dora w 1\n", []int{1, 2, 0, 3}, 1, []int{1, 2, 0, 4}, 1, 0, 2},
		// A move that breaks no more hard rules is done, whatever it costs.
		{"hard at anna w\nweigh 1000 at anna r\nweigh 1000 together anna boris\n", []int{0, 1, 2, 3}, 9, []int{3, 4, 2, 0}, 2, 0, 1000},
	} {
		p := four(t, x.text)
		y, n, e := large.Improve(p, x.from, x.rounds)
		hard, cost := modelOf(t, p).strain(y)
		if !slices.Equal(y, x.to) || n != x.n || hard != x.hard || cost != x.cost || e != api.OK {
			t.Errorf("%q, %d rounds of %v: %v, %d, %d, with the strain %d %d", x.text, x.rounds, x.from, y, n, e, hard, cost)
		}
	}
}

// P8.4, P8.5: guests times seats may be MaxMoves, but not more.
func TestMaxMoves(t *testing.T) {
	if large.MaxMoves != 1024 {
		t.Error("MaxMoves is", large.MaxMoves)
	}
	for _, x := range []struct {
		guests, seats int
		e             api.Errno
	}{{32, 32, api.OK}, {16, 64, api.OK}, {4, 256, api.OK}, {25, 41, api.ErrLarge}, {5, 205, api.ErrLarge}, {3, 341, api.OK}, {3, 342, api.ErrLarge}, {1, 384, api.OK}, {64, 384, api.ErrLarge}} {
		p := feast(x.guests, x.seats)
		p.Rules = rulesOf(t, "weigh 1 seat a ta 3\n")
		start, e := large.Start(p)
		end, n, f := large.Improve(p, all(x.guests), 5)
		_, g := large.Build(p, 5)
		if e != x.e || f != x.e || g != x.e || e != api.OK && !nothing(start, end, n) || e == api.OK && (start[0] != 3 || end[0] != 3 || n != 1) {
			t.Error(x, start, e, end, n, f, g)
		}
	}
}

// P8.4, P8.5: the error of a problem comes first, then that of a plan, then ErrLarge.
func TestMoveErrors(t *testing.T) {
	for _, x := range fails() {
		start, e := large.Start(x.p)
		end, n, f := large.Improve(x.p, nil, 9)
		if !nothing(start, end, n) || e != x.e || f != x.e {
			t.Error(start, e, end, n, f, x.e)
		}
	}
	p, crowd := four(t, asked), feast(64, 384)
	for _, x := range []struct {
		p    api.Problem
		plan []int
		e    api.Errno
	}{
		{p, []int{0, 1, 2}, api.ErrStale}, {p, nil, api.ErrStale}, {p, []int{0, 1, 2, -1}, api.ErrMiss}, {p, []int{0, 1, 2, 5}, api.ErrSeat},
		{p, []int{0, 1, 2, -2}, api.ErrSeat}, {p, []int{0, 1, 2, 2}, api.ErrTaken}, {p, []int{3, 3, 9, -1}, api.ErrTaken},
		{crowd, nil, api.ErrStale}, {crowd, all(63), api.ErrStale}, {crowd, slices.Repeat([]int{0}, 64), api.ErrTaken}, {crowd, all(64), api.ErrLarge},
	} {
		for _, rounds := range []int{-1, 0, 9} {
			if y, n, e := large.Improve(x.p, x.plan, rounds); !nothing(y, n) || e != x.e {
				t.Error(x.plan, y, n, e, x.e)
			}
		}
	}
}
