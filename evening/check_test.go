package evening_test

import (
	"math"
	"math/rand"
	"slices"
	"testing"

	"trestle/api"
	"trestle/evening"
)

// P9.1: the evenings and errors that Check names.
func TestCheck(t *testing.T) {
	for _, x := range []struct {
		n     int
		sizes []int
		text  string
		i     int
		e     api.Errno
	}{
		{4, nil, "0 1 / 3 2; 0 1 2 / 3; 3 2 1 0; 2 / 1 / 0 / 3", 0, api.OK},
		{4, []int{}, "0 1 / 3 2; 0 1 2 / 3", 0, api.OK},
		{4, []int{2, 2}, "0 1 / 3 2; 3 1 / 0 2", 0, api.OK},
		{4, []int{4}, "3 2 1 0", 0, api.OK},
		{1, nil, "0", 0, api.OK},
		{1, []int{1}, "0; 0; 0", 0, api.OK},
		// Sizes.
		{4, []int{2, 2}, "0 1 / 3 2; 0 1 2 / 3", 1, api.ErrArg},
		{4, []int{3, 1}, "0 1 / 3 2; 0 1 2 / 3", 0, api.ErrArg},
		{4, []int{1, 3}, "0 / 3 2 1; 0 1 2 / 3", 1, api.ErrArg},
		{4, []int{4}, "0 1 2 3; 0 1 2 3; 0 1 2 / 3", 2, api.ErrArg},
		{4, []int{2, 2}, "0 1 2 3", 0, api.ErrArg},
		{4, []int{2, 2}, "0 1 / 2 3 / 0", 0, api.ErrArg},
		{4, []int{2, 2}, "0 1", 0, api.ErrArg},
		// Empty tables.
		{4, nil, "0 1 2 3; 0 1 / / 2 3", 1, api.ErrArg},
		{4, nil, "0 1 2 3; ", 1, api.ErrArg},
		{1, nil, "0 / ", 0, api.ErrArg},
		{1, nil, "/ 0", 0, api.ErrArg},
		// Guests.
		{4, nil, "0 1 / 4 3", 0, api.ErrUnknown},
		{4, nil, "0 1 / 2 -1", 0, api.ErrUnknown},
		{4, nil, "0 1 / 2 3 4", 0, api.ErrUnknown},
		{4, nil, "0 1 2 3; 0 1 / 2 1", 1, api.ErrTwice},
		{4, nil, "0 1 2 / 3 0", 0, api.ErrTwice},
		{4, nil, "0 1 / 2", 0, api.ErrArg},
		{1, nil, "0 0", 0, api.ErrTwice},
		// The first evening with an error, and of its errors the one named first, wherever on the evening it is.
		{4, nil, "0 1 / 2; 0 1 / 2 4", 0, api.ErrArg},
		{4, nil, "0 1 1 / 3 4", 0, api.ErrUnknown},
		{4, nil, "0 1 1 / 3", 0, api.ErrTwice},
		{4, nil, "0 1 1 / 3 4 / ", 0, api.ErrArg},
		{4, []int{2, 2}, "0 0 / 9", 0, api.ErrArg},
		{4, []int{2, 2}, "0 0 / 9 9; 0 1 2 / 3", 0, api.ErrUnknown},
		{2, nil, "0 0 0 0 -5", 0, api.ErrUnknown},
	} {
		if i, e := evening.Check(x.n, x.sizes, of(t, x.text)); i != x.i || e != x.e {
			t.Errorf("%d, %v, %q: %d, %d, not %d, %d", x.n, x.sizes, x.text, i, e, x.i, x.e)
		}
	}
	if i, e := evening.Check(2, nil, [][][]int{{{0, 1}}, {}}); i != 1 || e != api.ErrArg {
		t.Error(i, e)
	}
	if i, e := evening.Check(2, nil, [][][]int{{{0, math.MinInt}}}); i != 0 || e != api.ErrUnknown {
		t.Error(i, e)
	}
	if i, e := evening.Check(2, nil, [][][]int{{{0, math.MaxInt}}}); i != 0 || e != api.ErrUnknown {
		t.Error(i, e)
	}
}

// P9.1: numbers of guests and sizes that do not fit come before everything else, then too many evenings.
func TestCheckSizes(t *testing.T) {
	for _, n := range []int{math.MinInt, -1, 0, 65, math.MaxInt} {
		for _, sizes := range [][]int{nil, {}, {n}, {1}} {
			for _, s := range [][][][]int{nil, season(1, 1), season(1, 65), {{{}}}} {
				if i, e := evening.Check(n, sizes, s); i != 0 || e != api.ErrSize {
					t.Errorf("%d, %v: %d, %d", n, sizes, i, e)
				}
			}
		}
	}
	for _, sizes := range [][]int{
		{0}, {-1}, {3}, {5}, {2, 1}, {2, 3}, {4, 0}, {0, 4}, {5, -1}, {-1, 5}, {2, 2, 0}, {1, 1, 1, 1, 1}, {3, 3, -2},
		{math.MaxInt}, {math.MinInt}, {math.MaxInt, math.MinInt, 5}, {math.MaxInt, math.MaxInt, 6}, {math.MinInt, math.MinInt, 4}, {1 << 62, 1 << 62, 1 << 62, 1 << 62, 4},
	} {
		for _, s := range [][][][]int{nil, of(t, "0 1 2 3"), of(t, "0 1 / 2"), season(4, 65), {{{}}}} {
			if i, e := evening.Check(4, sizes, s); i != 0 || e != api.ErrSize {
				t.Errorf("%v: %d, %d", sizes, i, e)
			}
		}
	}
	for n := 1; n <= 64; n++ {
		if i, e := evening.Check(n, nil, season(n, 64)); i != 0 || e != api.OK {
			t.Error(n, i, e)
		}
		if i, e := evening.Check(n, slices.Repeat([]int{1}, n), season(n, 64)); i != 0 || e != api.OK {
			t.Error(n, i, e)
		}
		if i, e := evening.Check(n, nil, season(n, 65)); i != 0 || e != api.ErrMany {
			t.Error(n, i, e)
		}
		// Too many evenings, with all of them wrong.
		if i, e := evening.Check(n, nil, slices.Repeat([][][]int{{{0, 0}}}, 100)); i != 0 || e != api.ErrMany {
			t.Error(n, i, e)
		}
	}
	if i, e := evening.Check(4, []int{1, 3}, season(4, 65)); i != 0 || e != api.ErrMany {
		t.Error(i, e)
	}
}

// P9.1: Check finds the same as a model that asks one thing after the other.
func TestCheckAny(t *testing.T) {
	r := rand.New(rand.NewSource(1))
	seen := map[api.Errno]int{}
	for range 30000 {
		n := 1 + r.Intn(7)
		sizes := anySizes(r, n)
		s := anySchedule(r, n, sizes, r.Intn(4))
		for range r.Intn(3) {
			if len(s) > 0 {
				e := r.Intn(len(s))
				spoilEvening(r, n, s, e)
			}
		}
		switch r.Intn(5) {
		case 0, 1:
			sizes = nil
		case 2:
			sizes = append(sizes, pick(r, strange()...))
		}
		n += pick(r, 0, 0, 0, 0, 0, 0, 0, 0, 1, -1)
		i, e := evening.Check(n, sizes, s)
		if j, f := check(n, sizes, s); i != j || e != f {
			t.Fatalf("%d, %v, %v: %d, %d, not %d, %d", n, sizes, s, i, e, j, f)
		}
		seen[e]++
	}
	if seen[api.OK] < 5000 || seen[api.ErrSize] < 1000 || seen[api.ErrArg] < 1000 || seen[api.ErrUnknown] < 1000 || seen[api.ErrTwice] < 1000 {
		t.Error(seen)
	}
}

// spoilEvening changes something on an evening.
func spoilEvening(r *rand.Rand, n int, s [][][]int, e int) {
	if len(s[e]) == 0 {
		return
	}
	t := r.Intn(len(s[e]))
	table := s[e][t]
	switch r.Intn(6) {
	case 0:
		s[e] = slices.Delete(s[e], t, t+1)
	case 1:
		s[e] = append(s[e], nil)
	case 2:
		s[e][t] = append(table, r.Intn(n))
	case 3:
		if len(table) > 0 {
			s[e][t] = table[1:]
		}
	default:
		if len(table) > 0 {
			table[r.Intn(len(table))] = pick(r, r.Intn(n), r.Intn(n), n, -1, pick(r, strange()...))
		}
	}
}
