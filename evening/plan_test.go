package evening_test

import (
	"math"
	"math/rand"
	"slices"
	"testing"

	"trestle/api"
	"trestle/evening"
)

// P9.5: Plan, against a model that counts all earlier meetings anew for each seat.
func TestPlan(t *testing.T) {
	r := rand.New(rand.NewSource(6))
	for range 300 {
		n := 1 + r.Intn(9)
		sizes := anySizes(r, n)
		evenings := r.Intn(9)
		s, e := evening.Plan(n, sizes, evenings)
		if want := fill(n, sizes, evenings); !same(s, want) || e != api.OK {
			t.Fatalf("%d, %v: %v, %d, not %v", n, sizes, s, e, want)
		}
		if i, e := evening.Check(n, sizes, s); i != 0 || e != api.OK {
			t.Fatal(n, sizes, s, i, e)
		}
	}
	for _, x := range []struct {
		sizes    []int
		evenings int
		text     string
	}{
		{[]int{2, 2}, 0, ""}, {[]int{2, 2}, 2, "0 1 / 2 3; 0 2 / 1 3"}, {[]int{2, 2}, 4, "0 1 / 2 3; 0 2 / 1 3; 0 3 / 1 2; 0 1 / 2 3"},
		{[]int{1, 3}, 2, "0 / 1 2 3; 0 / 1 2 3"}, {[]int{3, 1}, 3, "0 1 2 / 3; 0 3 1 / 2; 0 2 3 / 1"}, {[]int{4}, 2, "0 1 2 3; 0 1 2 3"}, {[]int{1, 1, 1, 1}, 1, "0 / 1 / 2 / 3"},
	} {
		s, e := evening.Plan(4, x.sizes, x.evenings)
		if e != api.OK || len(s) != x.evenings || x.evenings > 0 && !same(s, of(t, x.text)) {
			t.Errorf("%v: %v, %d", x, s, e)
		}
	}
}

// P9.5: the most of one comes before the sum.
func TestPlanOrder(t *testing.T) {
	s, e := evening.Plan(7, []int{4, 3}, 5)
	if want := fill(7, []int{4, 3}, 5); !same(s, want) || e != api.OK {
		t.Fatal(s, e)
	}
	// With the sum alone the plan would be another one.
	differ := false
	for n := 4; n <= 9; n++ {
		s, _ := evening.Plan(n, []int{n - 3, 3}, 8)
		differ = differ || show(s) != show(fillBySum(n, []int{n - 3, 3}, 8))
	}
	if !differ {
		t.Error("the examples do not tell the orders apart")
	}
}

// fillBySum returns a schedule that is filled by the sums of earlier meetings.
func fillBySum(n int, sizes []int, evenings int) [][][]int {
	var s [][][]int
	for range evenings {
		seated := map[int]bool{}
		var tables [][]int
		for _, size := range sizes {
			var table []int
			for range size {
				best := -1
				for g := range n {
					if !seated[g] && (best < 0 || burden(s, g, table)[1] < burden(s, best, table)[1]) {
						best = g
					}
				}
				seated[best] = true
				table = append(table, best)
			}
			tables = append(tables, table)
		}
		s = append(s, tables)
	}
	return s
}

// P9.5: errors of Plan, and its greatest schedules.
func TestPlanErrors(t *testing.T) {
	for _, x := range []struct {
		n        int
		sizes    []int
		evenings int
		e        api.Errno
	}{
		{4, []int{2, 2}, 64, api.OK}, {1, []int{1}, 0, api.OK}, {64, []int{64}, 64, api.OK}, {64, slices.Repeat([]int{8}, 8), 64, api.OK}, {64, slices.Repeat([]int{1}, 64), 64, api.OK},
		{0, nil, 1, api.ErrSize}, {0, []int{0}, 1, api.ErrSize}, {-1, []int{-1}, 1, api.ErrSize}, {65, []int{65}, 1, api.ErrSize}, {math.MaxInt, []int{math.MaxInt}, 1, api.ErrSize},
		{4, nil, 1, api.ErrSize}, {4, []int{}, 0, api.ErrSize}, {4, []int{2, 1}, 1, api.ErrSize}, {4, []int{2, 3}, 1, api.ErrSize}, {4, []int{5, -1}, 1, api.ErrSize}, {4, []int{4, 0}, 1, api.ErrSize},
		{4, []int{math.MaxInt, math.MaxInt, 6}, 1, api.ErrSize}, {4, []int{2, 1}, -1, api.ErrSize}, {0, []int{1}, 65, api.ErrSize},
		{4, []int{2, 2}, -1, api.ErrArg}, {4, []int{2, 2}, 65, api.ErrArg}, {4, []int{2, 2}, math.MinInt, api.ErrArg}, {4, []int{2, 2}, math.MaxInt, api.ErrArg},
	} {
		s, e := evening.Plan(x.n, x.sizes, x.evenings)
		if e != x.e || e != api.OK && s != nil {
			t.Errorf("%v: %v, %d", x, s, e)
		}
		if i, f := evening.Check(x.n, x.sizes, s); e == api.OK && (len(s) != x.evenings || i != 0 || f != api.OK) {
			t.Errorf("%v: %v", x, s)
		}
	}
}

// P9.5: Polish, against a model that counts the strain anew after each exchange.
func TestPolish(t *testing.T) {
	r := rand.New(rand.NewSource(7))
	ended, many := 0, 0
	for range 500 {
		n := 1 + r.Intn(9)
		s := anyEvenings(r, n, r.Intn(6))
		if r.Intn(3) == 0 && len(s) > 0 {
			s = slices.Repeat(s[:1], 1+r.Intn(7))
		}
		rounds := pick(r, 0, 1, 2, 3, 5, math.MaxInt)
		got, made, e := evening.Polish(n, s, rounds)
		want, count := polish(n, s, rounds)
		if !same(got, want) || made != count || e != api.OK {
			t.Fatalf("%v, %d rounds: %v, %d, %d, not %v, %d", s, rounds, got, made, e, want, count)
		}
		if _, more := better(n, got); made < rounds && more || strain(n, got) > strain(n, s) {
			t.Fatalf("%v, %d rounds: %v", s, rounds, got)
		}
		if made < rounds {
			ended++
		}
		if made > 2 {
			many++
		}
	}
	if ended < 250 || many < 50 {
		t.Error(ended, many)
	}
}

// P9.5: the chapter's example 5, and exchanges that were looked for by hand.
func TestPolishExamples(t *testing.T) {
	for _, x := range []struct {
		text   string
		rounds int
		want   string
		made   int
	}{
		{"0 1 / 2 3; 0 1 / 2 3", 1, "2 1 / 0 3; 0 1 / 2 3", 1}, {"0 1 / 2 3; 0 1 / 2 3", 9, "2 1 / 0 3; 0 1 / 2 3", 1}, {"0 1 / 2 3; 0 1 / 2 3", 0, "0 1 / 2 3; 0 1 / 2 3", 0},
		{"0 1 / 2 3; 0 2 / 1 3", 9, "0 1 / 2 3; 0 2 / 1 3", 0}, {"3 2 1 0; 3 2 1 0", 9, "3 2 1 0; 3 2 1 0", 0}, {"0 / 1 / 2 / 3; 0 / 1 / 2 / 3", 9, "0 / 1 / 2 / 3; 0 / 1 / 2 / 3", 0},
		// Seats are kept, and the first evening is the one that changes.
		{"1 0 / 3 2; 0 1 / 2 3; 0 1 / 2 3", 1, "1 2 / 3 0; 0 1 / 2 3; 0 1 / 2 3", 1}, {"1 0 / 3 2; 0 1 / 2 3; 0 1 / 2 3", 2, "1 2 / 3 0; 3 1 / 2 0; 0 1 / 2 3", 2},
		// The first evening cannot be better.
		{"0 1 2 3; 0 1 / 2 3; 0 1 / 2 3", 9, "0 1 2 3; 2 1 / 0 3; 0 1 / 2 3", 1},
	} {
		if s, made, e := evening.Polish(4, of(t, x.text), x.rounds); !same(s, of(t, x.want)) || made != x.made || e != api.OK {
			t.Errorf("%v: %v, %d, %d", x, s, made, e)
		}
	}
	if s, made, e := evening.Polish(4, nil, 9); len(s) != 0 || made != 0 || e != api.OK {
		t.Error(s, made, e)
	}
}

// P9.5: large schedules, too, are made better until no exchange makes the strain less.
func TestPolishLarge(t *testing.T) {
	for _, size := range []int{2, 4, 8, 32} {
		one, _ := evening.Plan(64, slices.Repeat([]int{size}, 64/size), 1)
		s := slices.Repeat(one, 6)
		before := evening.Strain(64, s)
		out, made, e := evening.Polish(64, s, math.MaxInt)
		after := evening.Strain(64, out)
		if _, again, _ := evening.Polish(64, out, 1); e != api.OK || made == 0 || after >= before || again != 0 {
			t.Error(size, before, after, made, e)
		}
		if i, e := evening.Check(64, slices.Repeat([]int{size}, 64/size), out); i != 0 || e != api.OK {
			t.Error(size, i, e)
		}
	}
}

// P9.5: who sits where others sat, and evenings that follow others.
func TestRelabelAndJoin(t *testing.T) {
	r := rand.New(rand.NewSource(8))
	for range 500 {
		n := 1 + r.Intn(9)
		a, b := anyEvenings(r, n, r.Intn(5)), anyEvenings(r, n, r.Intn(5))
		p := r.Perm(n)
		s, e := evening.Relabel(n, a, p)
		want := clone(a)
		for i := range want {
			for _, table := range want[i] {
				for k := range table {
					table[k] = p[table[k]]
				}
			}
		}
		if !same(s, want) || e != api.OK {
			t.Fatalf("%v by %v: %v, %d", a, p, s, e)
		}
		for x := range n {
			for y := range n {
				if !slices.Equal(evening.Together(n, a, x, y), evening.Together(n, s, p[x], p[y])) {
					t.Fatal(a, p, s, x, y)
				}
			}
		}
		if s, e := evening.Join(n, a, b); !same(s, slices.Concat(a, b)) || e != api.OK {
			t.Fatalf("%v and %v: %v, %d", a, b, s, e)
		}
	}
	if s, e := evening.Relabel(4, of(t, "0 1 / 2 3; 3 / 2 0 1"), []int{3, 0, 1, 2}); !same(s, of(t, "3 0 / 1 2; 2 / 1 3 0")) || e != api.OK {
		t.Error(s, e)
	}
	for _, k := range []int{0, 1, 31, 32, 63, 64} {
		if s, e := evening.Join(2, season(2, k), season(2, 64-k)); !same(s, season(2, 64)) || e != api.OK {
			t.Error(k, s, e)
		}
		if s, e := evening.Join(2, season(2, k), season(2, 64-k+min(k, 1))); k > 0 && (s != nil || e != api.ErrMany) {
			t.Error(k, s, e)
		}
	}
}

// P9.5: errors of Polish, Relabel and Join.
func TestScheduleErrors(t *testing.T) {
	good := of(t, "0 1; 0 / 1")
	for _, x := range wrongs() {
		_, e := check(x.n, nil, x.s)
		s, made, f := evening.Polish(x.n, x.s, 1)
		if s != nil || made != 0 || f != e || e == api.OK {
			t.Error(x, s, made, f, e)
		}
		s, made, f = evening.Polish(x.n, x.s, -1)
		if s != nil || made != 0 || f != e {
			t.Error(x, s, made, f, e)
		}
		for _, p := range [][]int{nil, {0}, {0, 1}, {1, 1}} {
			if s, f := evening.Relabel(x.n, x.s, p); s != nil || f != e {
				t.Error(x, p, s, f, e)
			}
		}
		for _, other := range [][][][]int{nil, x.s} {
			if s, f := evening.Join(x.n, x.s, other); s != nil || f != e {
				t.Error(x, s, f, e)
			}
		}
		if s, f := evening.Join(x.n, nil, x.s); s != nil || f != e {
			t.Error(x, s, f, e)
		}
	}
	// The first schedule comes first, then the second one, then both together.
	unknown, twice := of(t, "0 2"), of(t, "0 0")
	for _, x := range []struct {
		a, b [][][]int
		e    api.Errno
	}{
		{unknown, twice, api.ErrUnknown}, {twice, unknown, api.ErrTwice}, {good, twice, api.ErrTwice}, {season(2, 64), unknown, api.ErrUnknown},
		{season(2, 65), unknown, api.ErrMany}, {unknown, season(2, 65), api.ErrUnknown}, {season(2, 64), good, api.ErrMany}, {good, season(2, 64), api.ErrMany},
	} {
		if s, e := evening.Join(2, x.a, x.b); s != nil || e != x.e {
			t.Error(x.a, x.b, s, e)
		}
	}
	for _, rounds := range []int{-1, math.MinInt} {
		if s, made, e := evening.Polish(2, good, rounds); s != nil || made != 0 || e != api.ErrArg {
			t.Error(rounds, s, made, e)
		}
	}
	for _, p := range [][]int{nil, {}, {0}, {1}, {0, 0}, {1, 1}, {0, 2}, {-1, 0}, {0, 1, 0}, {0, 1, 2}, {1, 0, -1}, {math.MinInt, math.MaxInt}} {
		for _, s := range [][][][]int{nil, good} {
			if out, e := evening.Relabel(2, s, p); out != nil || e != api.ErrArg {
				t.Error(p, out, e)
			}
		}
	}
}

// P9.5: the hosts of tables.
func TestHosts(t *testing.T) {
	for _, x := range []struct {
		n    int
		text string
		want string
	}{
		{1, "0; 0", "[[0] [0]]"}, {3, "2 1 0; 2 1 0; 2 1 0; 2 1 0", "[[0] [1] [2] [0]]"}, {5, "0 1 2 / 3 4; 2 0 / 1 4 3; 0 1 2 3 4", "[[0 3] [2 1] [4]]"},
		// Who was a host on this evening at another table does not count otherwise.
		{4, "3 / 2 1 0; 3 1 / 2 0; 3 2 / 1 / 0", "[[3 0] [1 2] [2 1 0]]"}, {2, "1 / 0; 1 0; 0 1", "[[1 0] [0] [1]]"},
	} {
		if got := evening.Hosts(x.n, of(t, x.text)); show(got) != "["+x.want+"]" {
			t.Errorf("%v: %v", x, got)
		}
	}
	r := rand.New(rand.NewSource(9))
	for range 500 {
		n := 1 + r.Intn(9)
		s := anyEvenings(r, n, r.Intn(9))
		if got, want := evening.Hosts(n, s), hosts(s); show(got) != show(want) {
			t.Fatalf("%v: %v, not %v", s, got, want)
		}
	}
}
