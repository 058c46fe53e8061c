package conflict_test

import (
	"math"
	"math/rand"
	"slices"
	"testing"

	"trestle/api"
	"trestle/conflict"
)

// meet reports whether two lists have a number in common.
func meet(x, y []int) bool {
	for _, n := range x {
		for _, k := range y {
			if n == k {
				return true
			}
		}
	}
	return false
}

// hitting returns the minimal hitting sets of some lists, in order, by their definition.
func hitting(l [][]int) [][]int {
	numbers := slices.Concat(l...)
	slices.Sort(numbers)
	numbers = slices.Compact(numbers)
	hits := make([][]int, 1<<len(numbers))
	is := make([]bool, len(hits))
	for s := range hits {
		for k, n := range numbers {
			if s&(1<<k) != 0 {
				hits[s] = append(hits[s], n)
			}
		}
		is[s] = !slices.ContainsFunc(l, func(x []int) bool { return !meet(x, hits[s]) })
	}
	var list [][]int
	for s, ok := range is {
		for below := range s {
			ok = ok && !(is[below] && below&s == below)
		}
		if ok {
			list = append(list, hits[s])
		}
	}
	slices.SortFunc(list, inOrder)
	return list
}

// anyLists returns lists of some numbers, in any order, some of them more than once.
func anyLists(r *rand.Rand, numbers []int) [][]int {
	var l [][]int
	for range r.Intn(6) {
		var x []int
		for range 1 + r.Intn(6) {
			x = append(x, pick(r, numbers...))
		}
		if r.Intn(40) == 0 {
			x = nil
		}
		l = append(l, x)
	}
	return l
}

// P7.4: the minimal hitting sets of some lists, in order, up to a limit.
func TestTransversals(t *testing.T) {
	r := rand.New(rand.NewSource(8))
	several, sizes, large := 0, map[int]int{}, 0
	for range 1500 {
		numbers := strange()
		r.Shuffle(len(numbers), func(i, j int) { numbers[i], numbers[j] = numbers[j], numbers[i] })
		l := anyLists(r, numbers[:pick(r, 1, 3, 6, 10, 16)])
		var before [][]int
		for _, x := range l {
			before = append(before, slices.Clone(x))
		}
		different := slices.Concat(l...)
		slices.Sort(different)
		if len(slices.Compact(different)) > 10 {
			for _, limit := range []int{-1, 0, math.MaxInt} {
				if sets, e := conflict.Transversals(l, limit); sets != nil || e != api.ErrLarge {
					t.Fatalf("%v: %v, %d", l, sets, e)
				}
			}
			large++
			continue
		}
		want := hitting(l)
		limited(t, "Transversals", want, func(limit int) ([][]int, api.Errno) { return conflict.Transversals(l, limit) })
		if !equal(l, before) {
			t.Fatal("a list is changed")
		}
		if len(want) > 2 {
			several++
		}
		for _, x := range want {
			sizes[len(x)]++
		}
	}
	if several < 200 || sizes[1] < 200 || sizes[3] < 200 || sizes[4] < 50 || large < 30 {
		t.Errorf("%d times several sets, of sizes %v; %d times too many numbers", several, sizes, large)
	}
}

// P7.4: the chapter's example 5, no sets, empty sets, and as many numbers and hitting sets as there can be.
func TestTransversalsExamples(t *testing.T) {
	ten := []int{9, 8, 7, 6, 5, 4, 3, 2, 1, 0}
	var ones [][]int
	for _, n := range ten {
		ones = append(ones, []int{n})
	}
	for _, x := range []struct {
		l, want [][]int
	}{
		{[][]int{{0, 1}, {1, 2}}, [][]int{{1}, {0, 2}}},
		{nil, [][]int{nil}},
		{[][]int{}, [][]int{nil}},
		{[][]int{nil}, nil},
		{[][]int{{}}, nil},
		{[][]int{{1}, nil, {2}}, nil},
		{[][]int{{5, 5, 5}, {5}}, [][]int{{5}}},
		{[][]int{{7, -3, 7}, {-3}}, [][]int{{-3}}},
		{[][]int{{math.MaxInt, math.MinInt}, {math.MinInt, math.MaxInt}}, [][]int{{math.MinInt}, {math.MaxInt}}},
		{[][]int{ten}, [][]int{{0}, {1}, {2}, {3}, {4}, {5}, {6}, {7}, {8}, {9}}},
		{ones, [][]int{{0, 1, 2, 3, 4, 5, 6, 7, 8, 9}}},
		{[][]int{{10, 9}, {9, 2}, {10, 2}}, [][]int{{2, 9}, {2, 10}, {9, 10}}},
		{[][]int{{3, 1}, {2, 4}, {1, 2, 3, 4}}, [][]int{{1, 2}, {1, 4}, {2, 3}, {3, 4}}},
	} {
		limited(t, "Transversals", x.want, func(limit int) ([][]int, api.Errno) { return conflict.Transversals(x.l, limit) })
	}
	for _, l := range [][][]int{{append(ten, 10)}, append(ones, []int{-1}), {nil, append(ten, math.MinInt)}, {ten, {1, 2, 3, 11}}} {
		for _, limit := range []int{0, 1000} {
			if sets, e := conflict.Transversals(l, limit); sets != nil || e != api.ErrLarge {
				t.Errorf("%v: %v, %d", l, sets, e)
			}
		}
	}
	// To hit all sets of six of ten numbers it takes any five of them.
	var sixes, fives [][]int
	for s := range 1 << 10 {
		var x []int
		for n := range 10 {
			if s&(1<<n) != 0 {
				x = append(x, n)
			}
		}
		switch len(x) {
		case 5:
			fives = append(fives, x)
		case 6:
			sixes = append(sixes, x)
		}
	}
	slices.SortFunc(fives, inOrder)
	limited(t, "Transversals", fives, func(limit int) ([][]int, api.Errno) { return conflict.Transversals(sixes, limit) })
	many := slices.Repeat([][]int{{1, 2}, {2, 3}, {1, 2, 3, 4, 5}}, 20000)
	limited(t, "Transversals", [][]int{{2}, {1, 3}}, func(limit int) ([][]int, api.Errno) { return conflict.Transversals(many, limit) })
}

// P7.4: whether all lists have numbers in common with all of others.
func TestHits(t *testing.T) {
	r := rand.New(rand.NewSource(9))
	seen := map[bool]int{}
	for range 3000 {
		numbers := strange()[r.Intn(9):]
		a, b := anyLists(r, numbers[:1+r.Intn(8)]), anyLists(r, numbers[:1+r.Intn(3)])
		want := true
		for _, x := range a {
			for _, y := range b {
				want = want && meet(x, y)
			}
		}
		if conflict.Hits(a, b) != want || conflict.Hits(b, a) != want {
			t.Fatalf("%v, %v: not %v", a, b, want)
		}
		if len(a) > 0 && len(b) > 0 {
			seen[want]++
		}
	}
	if seen[true] < 300 || seen[false] < 300 {
		t.Error("answers", seen)
	}
	for _, x := range []struct {
		a, b [][]int
		want bool
	}{
		{nil, nil, true}, {nil, [][]int{nil}, true}, {[][]int{nil}, [][]int{}, true}, {[][]int{{}}, [][]int{{}}, false}, {[][]int{nil}, [][]int{{1}}, false},
		{[][]int{{1, 2}, {2, 3}}, [][]int{{2}, {1, 3}}, true}, {[][]int{{1, 2}}, [][]int{{2}, {3}}, false}, {[][]int{{2}, {3}}, [][]int{{1, 2}}, false},
		{[][]int{{0}}, [][]int{{0}}, true}, {[][]int{{math.MinInt, 4}}, [][]int{{9, math.MinInt}}, true}, {[][]int{{-1}}, [][]int{{1}}, false},
		{[][]int{{1, 1, 1}, {2, 1}}, [][]int{{3, 1, 3}}, true}, {[][]int{{1}, {2}}, [][]int{{1}, {2}}, false},
	} {
		if conflict.Hits(x.a, x.b) != x.want {
			t.Errorf("%v, %v: not %v", x.a, x.b, x.want)
		}
	}
}
