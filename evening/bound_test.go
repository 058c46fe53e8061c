package evening_test

import (
	"math"
	"math/rand"
	"testing"

	"trestle/evening"
)

// P9.2: the chapter's example 4, and the edges.
func TestBoundExamples(t *testing.T) {
	three := []int{3, 3, 3}
	for _, x := range []struct {
		n     int
		sizes []int
		k     int
		least int
		most  int
	}{
		{9, three, 4, 1, 16}, {9, three, 5, 2, 20}, {9, three, 1, 1, 4}, {9, three, 8, 2, 32}, {9, three, 9, 3, 36},
		{9, three, 16, 4, 64}, {9, three, 17, 5, 64}, {9, three, 64, 16, 64}, {9, three, 65, 16, 64}, {9, three, math.MaxInt, 16, 64},
		{9, three, 0, 0, 0}, {9, three, -1, 0, 0}, {9, three, math.MinInt, 0, 0},
		// Nobody meets.
		{2, []int{1, 1}, 0, 0, 64}, {2, []int{1, 1}, 5, 0, 64}, {2, []int{1, 1}, -1, 0, 0}, {1, []int{1}, 9, 0, 64}, {1, []int{1}, 0, 0, 64}, {1, []int{1}, -1, 0, 0},
		// All meet.
		{5, []int{5}, 7, 7, 7}, {64, []int{64}, 64, 64, 64}, {64, []int{64}, 65, 64, 64}, {2, []int{2}, 64, 64, 64},
		// 10 of 15 pairs, 1 of 6 pairs.
		{6, []int{1, 5}, 1, 1, 1}, {6, []int{5, 1}, 2, 2, 3}, {6, []int{5, 1}, 3, 2, 4}, {6, []int{5, 1}, 4, 3, 6}, {4, []int{1, 2, 1}, 7, 2, 42},
		// Sizes that do not fit, and numbers of guests.
		{8, three, 1, 0, 0}, {10, three, 1, 0, 0}, {9, nil, 1, 0, 0}, {9, []int{}, 1, 0, 0}, {9, []int{10, -1}, 1, 0, 0}, {9, []int{9, 0}, 1, 0, 0}, {0, nil, 1, 0, 0},
		{0, []int{0}, 1, 0, 0}, {-1, []int{-1}, 1, 0, 0}, {65, []int{65}, 1, 0, 0}, {math.MaxInt, []int{math.MaxInt}, 1, 0, 0}, {1, nil, 1, 0, 0},
		{4, []int{math.MaxInt, math.MaxInt, 6}, 1, 0, 0},
	} {
		if least, most := evening.LeastMost(x.n, x.sizes, x.k), evening.MostEvenings(x.n, x.sizes, x.k); least != x.least || most != x.most {
			t.Errorf("%v: %d, %d", x, least, most)
		}
	}
}

// P9.2: the bounds are the least and the greatest numbers that the chapter describes.
func TestBounds(t *testing.T) {
	r := rand.New(rand.NewSource(4))
	for range 3000 {
		n := pick(r, 1+r.Intn(12), 1+r.Intn(64))
		sizes := anySizes(r, n)
		meet := 0
		for _, size := range sizes {
			meet += len(numbers(size, nil))
		}
		all := len(numbers(n, nil))
		k := r.Intn(80) - 5
		count := max(0, min(k, 64))
		least := 0
		for meet > 0 && count*meet > least*all {
			least++
		}
		most := 0
		for k >= 0 && most < 64 && (most+1)*meet <= count*all {
			most++
		}
		if a, b := evening.LeastMost(n, sizes, k), evening.MostEvenings(n, sizes, k); a != least || b != most {
			t.Fatalf("%d, %v, %d: %d, %d, not %d, %d", n, sizes, k, a, b, least, most)
		}
	}
}

// P9.2 and P5: no schedule has a Most below LeastMost, and none with more evenings than MostEvenings has a Most of at most often.
func TestBoundsHold(t *testing.T) {
	r := rand.New(rand.NewSource(5))
	met, full := 0, 0
	for range 3000 {
		n := 1 + r.Intn(10)
		sizes := anySizes(r, n)
		evenings := r.Intn(12)
		s := anySchedule(r, n, sizes, evenings)
		if r.Intn(2) == 0 {
			s, _ = evening.Plan(n, sizes, evenings)
		}
		most, bound := evening.Most(n, s), evening.LeastMost(n, sizes, evenings)
		if most < bound {
			t.Fatalf("%v: %d is below %d", s, most, bound)
		}
		if most == bound {
			met++
		}
		for often := most; often < most+3; often++ {
			limit := evening.MostEvenings(n, sizes, often)
			if evenings > limit {
				t.Fatalf("%v: %d evenings, not %d with %d", s, evenings, limit, often)
			}
			if evenings == limit {
				full++
			}
		}
	}
	if met < 500 || full < 100 {
		t.Error(met, full)
	}
}
