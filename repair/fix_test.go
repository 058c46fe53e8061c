package repair_test

import (
	"math"
	"math/rand"
	"slices"
	"testing"

	"trestle/api"
	"trestle/hall"
	"trestle/repair"
)

// P10.4: the chapter's examples, and what decides among several repairs.
func TestFix(t *testing.T) {
	quarrel := "hard apart anna boris 2\n"
	for _, x := range []struct {
		p           api.Problem
		part        []int
		most        int
		plan        []int
		moved, cost int
	}{
		{wider(t, quarrel), []int{0, 1, 2}, 1, []int{0, 4, 2}, 1, 0},
		{wider(t, quarrel), []int{0, 1, 2}, 3, []int{0, 4, 2}, 1, 0},
		{wider(t, quarrel), []int{0, 1, 2}, math.MaxInt, []int{0, 4, 2}, 1, 0},
		{three(t, "hard seat carl r 0\n"), []int{0, 1, 2}, 2, []int{2, 1, 0}, 2, 0},
		{three(t, "hard seat carl r 0\n"), []int{0, 1, 2}, 3, []int{2, 1, 0}, 2, 0},
		{three(t, ""), []int{3, 1, 2}, 0, []int{3, 1, 2}, 0, 0},
		{three(t, ""), []int{3, 1, 2}, -5, []int{3, 1, 2}, 0, 0},
		// Who was not seated takes the first free seats, and is not moved.
		{wider(t, ""), []int{-1, 1, -1}, 0, []int{0, 1, 2}, 0, 0},
		{wider(t, quarrel), []int{-1, 0, -1}, math.MinInt, []int{4, 0, 1}, 0, 0},
		{wider(t, quarrel), []int{-1, -1, -1}, 3, []int{0, 4, 1}, 0, 0},
		// Fewer moves count more than the cost, the cost more than the order.
		{wider(t, "weigh 1000 at anna w\n"), []int{0, 1, 2}, 3, []int{0, 1, 2}, 0, 1000},
		{wider(t, quarrel+"weigh 5 at boris r\nweigh 4 seat carl r 3\n"), []int{0, 1, 2}, 3, []int{4, 1, 2}, 1, 4},
		{wider(t, quarrel+"weigh 5 at boris r\nweigh 5 at anna r\n"), []int{0, 1, 2}, 3, []int{0, 4, 2}, 1, 5},
		{wider(t, "weigh 1 seat anna r 3\n"), []int{-1, 1, -1}, 0, []int{3, 1, 0}, 0, 0},
		// A plan that moves nobody more, but only because two swap.
		{three(t, "hard seat anna r 1\n"), []int{0, 1, 2}, 2, []int{1, 0, 2}, 2, 0},
		// To fill a table, or to host it, somebody comes who is not to blame.
		{wider(t, "hard fill w 1\n"), []int{3, 2, 1}, 3, []int{3, 2, 4}, 1, 0},
		{wider(t, "hard fill w 1\n"), []int{3, -1, 1}, 3, []int{3, 4, 1}, 0, 0},
		{api.Problem{}, nil, 0, nil, 0, 0}, {feast(0, 5), []int{}, 3, nil, 0, 0},
	} {
		r, e := repair.Fix(x.p, x.part, x.most)
		if e != api.OK || !slices.Equal(r.Plan, x.plan) || r.Moved != x.moved || r.Cost != x.cost || show(r.Problem) != show(x.p) {
			t.Errorf("%v, %v, %d: %+v, %d", x.p, x.part, x.most, r, e)
		}
	}
	empty := feast(0, 5)
	empty.Rules = rulesOf(t, "weigh 3 fill - 2\n")
	if r, e := repair.Fix(empty, nil, 0); e != api.OK || r.Cost != 6 || len(r.Plan) != 0 {
		t.Error(r, e)
	}
	empty.Rules[0].Weight = 0
	if r, e := repair.Fix(empty, nil, 0); e != api.ErrNone || !nothing(r) {
		t.Error(r, e)
	}
}

// P10.4: there is no repair that moves so few.
func TestFixNone(t *testing.T) {
	for _, x := range []struct {
		p    api.Problem
		part []int
		most int
	}{
		{three(t, "hard apart anna boris 2\n"), []int{0, 1, 2}, 0}, {three(t, "hard apart anna boris 2\n"), []int{0, 1, 2}, 3}, {three(t, "hard apart anna boris 2\n"), []int{-1, -1, -1}, math.MaxInt},
		{wider(t, "hard apart anna boris 2\n"), []int{0, 1, 2}, 0}, {wider(t, "hard apart anna boris 2\n"), []int{0, 1, 2}, -1}, {wider(t, "hard apart anna boris 2\n"), []int{0, 1, 4}, 1},
		{three(t, "hard seat carl r 0\n"), []int{0, 1, 2}, 1}, {three(t, "hard seat carl r 0\nhard seat anna r 0\n"), []int{0, 1, 2}, 3},
		{wider(t, "hard limit r 2\nhard limit w 0\n"), []int{0, 1, 2}, 3}, {wider(t, "hard fill w 1\n"), []int{3, 2, 1}, 0},
	} {
		if r, e := repair.Fix(x.p, x.part, x.most); e != api.ErrNone || !nothing(r) {
			t.Errorf("%v, %v, %d: %+v, %d", x.p, x.part, x.most, r, e)
		}
	}
}

// P10.4: the repair in which one guest sits elsewhere.
func TestOust(t *testing.T) {
	for _, x := range []struct {
		p       api.Problem
		part    []int
		g, most int
		plan    []int
		moved   int
		e       api.Errno
	}{
		{three(t, ""), []int{0, 1, 2}, 1, 1, []int{0, 3, 2}, 1, api.OK}, {three(t, ""), []int{0, 1, 2}, 1, 0, nil, 0, api.ErrNone}, {three(t, ""), []int{0, 1, 2}, 1, -1, nil, 0, api.ErrNone},
		{three(t, ""), []int{0, 1, 2}, 2, math.MaxInt, []int{0, 1, 3}, 1, api.OK}, {three(t, ""), []int{0, -1, -1}, 0, 1, []int{1, 0, 2}, 1, api.OK},
		{three(t, "hard at boris r\nhard beside boris anna\nhard across anna carl\n"), []int{0, 1, 2}, 0, 3, []int{2, 1, 0}, 2, api.OK},
		{three(t, "hard seat boris r 1\n"), []int{0, 1, 2}, 1, 3, nil, 0, api.ErrNone}, {wider(t, "hard apart anna boris 2\n"), []int{0, 1, 2}, 2, 1, nil, 0, api.ErrNone},
		{wider(t, "hard apart anna boris 2\n"), []int{0, 1, 2}, 2, 2, []int{0, 4, 1}, 2, api.OK}, {wider(t, "hard apart anna boris 2\n"), []int{0, 1, 2}, 0, 2, []int{4, 1, 2}, 1, api.OK},
		{three(t, ""), []int{0, 1, -1}, 2, 3, nil, 0, api.ErrArg}, {three(t, ""), []int{0, 1, -1}, 3, 3, nil, 0, api.ErrArg}, {three(t, ""), []int{0, 1, -1}, -1, 3, nil, 0, api.ErrArg},
		{three(t, ""), []int{0, 1, 2}, math.MaxInt, 0, nil, 0, api.ErrArg}, {three(t, ""), []int{0, 1, 2}, math.MinInt, 0, nil, 0, api.ErrArg}, {api.Problem{}, nil, 0, 0, nil, 0, api.ErrArg},
		// Everybody sits, and no seat is free.
		{feast(1, 1), []int{0}, 0, 1, nil, 0, api.ErrNone}, {feast(2, 2), []int{0, 1}, 1, 1, nil, 0, api.ErrNone}, {feast(2, 2), []int{0, 1}, 1, 2, []int{1, 0}, 2, api.OK},
	} {
		r, e := repair.Oust(x.p, x.part, x.g, x.most)
		if e != x.e || !slices.Equal(r.Plan, x.plan) || r.Moved != x.moved || e != api.OK && !nothing(r) || e == api.OK && show(r.Problem) != show(x.p) {
			t.Errorf("%v, %v, %d, %d: %+v, %d, not %d", x.p, x.part, x.g, x.most, r, e, x.e)
		}
	}
}

// P10.4: the errors of the problem and of the partial plan come first, then ErrArg, then ErrLarge, which comes even if nobody has
// to move; then ErrNone.
func TestFixErrors(t *testing.T) {
	for _, x := range fails() {
		r, e := repair.Fix(x.p, x.part, 64)
		s, f := repair.Oust(x.p, x.part, -1, 64)
		if e != x.e || f != x.e || !nothing(r, s) {
			t.Errorf("%+v, %d, %+v, %d, not %d", r, e, s, f, x.e)
		}
	}
	for _, x := range []struct {
		guests, seats, seated, most int
		e                           api.Errno
	}{
		{64, 384, 64, 0, api.OK}, {64, 384, 64, 1, api.ErrLarge}, {64, 384, 64, math.MaxInt, api.ErrLarge}, {45, 48, 45, 2, api.OK}, {58, 60, 58, 2, api.ErrLarge}, {4, 84, 3, 1, api.ErrLarge},
		{62, 383, 62, 1, api.OK}, {7, 7, 0, 9, api.OK}, {8, 8, 0, 0, api.ErrLarge}, {2, 141, 0, 1, api.OK}, {2, 142, 0, 0, api.ErrLarge}, {64, 64, 64, 2, api.OK}, {64, 64, 64, 3, api.ErrLarge},
	} {
		p := feast(x.guests, x.seats)
		part := first(p, x.seated)
		r, e := repair.Fix(p, part, x.most)
		if e != x.e || e == api.OK && (!slices.Equal(r.Plan, first(p, x.guests)) || r.Moved != 0) || e != api.OK && !nothing(r) {
			t.Errorf("%+v: %v, %d", x, r.Plan, e)
		}
		if e == api.OK {
			continue
		}
		// No repair at all, but that is not looked at.
		p.Rules = rulesOf(t, "hard limit - 0\n")
		if r, e := repair.Fix(p, part, x.most); e != api.ErrLarge || !nothing(r) {
			t.Errorf("%+v: %v, %d", x, r.Plan, e)
		}
		for g := -1; g <= x.guests; g++ {
			want := api.ErrArg
			if g >= 0 && g < x.seated {
				want = api.ErrLarge
			}
			if r, e := repair.Oust(p, part, g, x.most); e != want || !nothing(r) {
				t.Errorf("%+v: %d: %d, not %d", x, g, e, want)
			}
		}
	}
}

// P10.4: in large halls, too, where the tries are few.
func TestFixLarge(t *testing.T) {
	p := feast(64, 364)
	p.Rules = rulesOf(t, "weigh 1 seat aaa tc 3\nhard seat b tp 3\nhard speak -\nweigh 2 honour -\n")
	for g := range p.Guests {
		p.Guests[g].Tongues = []string{"latin"}
		p.Class = append(p.Class, 5)
	}
	want := first(p, 64)
	want[12] = 363
	if r, e := repair.Fix(p, first(p, 64), 1); e != api.OK || !slices.Equal(r.Plan, want) || r.Moved != 1 || r.Cost != 1 {
		t.Error(r.Plan, r.Moved, r.Cost, e)
	}
	// Two seats of the first table are free; only on one of them the last guest understands somebody.
	p.Guests[63].Tongues, p.Guests[13].Tongues = []string{"welsh"}, []string{"latin", "welsh"}
	p.Rules = append(rulesOf(t, "hard speak -\n"), api.Rule{Kind: api.At, A: p.Guests[63].Name, Table: "ta"})
	part := first(p, 63)
	part[8], part[12] = 300, 310
	want = slices.Clone(part)
	want[63] = 12
	if r, e := repair.Fix(p, part, 0); e != api.OK || !slices.Equal(r.Plan, want) || r.Moved != 0 || r.Cost != 0 {
		t.Error(r.Plan, r.Moved, r.Cost, e)
	}
	p.Guests[13].Tongues = []string{"latin"}
	if r, e := repair.Fix(p, part, 0); e != api.ErrNone || !nothing(r) {
		t.Error(r.Plan, r.Moved, r.Cost, e)
	}
}

// P10.4: against all plans, of any problems.
func TestAnyRepair(t *testing.T) {
	r := rand.New(rand.NewSource(25))
	moves, ousted, none := map[int]int{}, map[int]int{}, 0
	for range 2500 {
		p := anyProblem(r, 400, r.Intn(9))
		if r.Intn(2) == 0 {
			p = solvable(r, p)
		}
		part, most := anyPart(r, p), pick(r, strange()...)
		all := repairs(t, p, part)
		checkRepair(t, p, part, most, all, func() (api.Repair, api.Errno) { return repair.Fix(p, part, most) })
		if got, e := repair.Fix(p, part, len(part)); e == api.OK {
			moves[got.Moved]++
		} else if e == api.ErrNone {
			none++
		}
		for g := -1; g <= len(part); g++ {
			if g < 0 || g >= len(part) || part[g] == -1 {
				if s, e := repair.Oust(p, part, g, most); e != api.ErrArg || !nothing(s) {
					t.Fatalf("%v, %v, %d: %+v, %d", p, part, g, s, e)
				}
				continue
			}
			var away []api.Repair
			for _, s := range all {
				if s.Plan[g] != part[g] {
					away = append(away, s)
				}
			}
			checkRepair(t, p, part, most, away, func() (api.Repair, api.Errno) { return repair.Oust(p, part, g, most) })
			if got, e := repair.Oust(p, part, g, len(part)); e == api.OK {
				ousted[got.Moved]++
			}
		}
	}
	if moves[1] < 300 || moves[2] < 100 || moves[3] < 5 || ousted[1] < 300 || ousted[2] < 300 || ousted[3] < 50 || none < 200 {
		t.Error("moved", moves, ousted, "none", none)
	}
}

// checkRepair fails a test unless a function returns the first of some repairs, if it moves at most so many guests.
func checkRepair(t *testing.T, p api.Problem, part []int, most int, list []api.Repair, ask func() (api.Repair, api.Errno)) {
	t.Helper()
	want, wrong := api.Repair{}, api.ErrNone
	switch {
	case tries(p, part, most) > api.MaxWork:
		wrong = api.ErrLarge
	case len(list) > 0 && list[0].Moved <= max(most, 0):
		want, wrong = list[0], api.OK
	}
	p0, part0 := copied(p), slices.Clone(part)
	got, e := ask()
	if e != wrong || show(got) != show(want) {
		t.Fatalf("%v, %v, %d of %d seats: %+v, %d, not %+v, %d", p, part, most, hall.Count(p.Tables), got, e, want, wrong)
	}
	scribble(got.Problem, got.Plan)
	if show(p, part) != show(p0, part0) {
		t.Fatal("an argument is changed")
	}
}
