package court

import (
	"cmp"
	"slices"

	"trestle/api"
)

// places is how many places, from 0 on, a list or a lot tells apart. It is a power of 2, so that the odd factor of a lot gives
// each of them a key of its own.
const places = 64

// placed is a guest at a place.
type placed struct {
	api.Guest
	place int
}

// placedAll returns the guests of a list at their places.
func placedAll(g []api.Guest) []placed {
	list := make([]placed, len(g))
	for i, guest := range g {
		list[i] = placed{guest, i}
	}
	return list
}

// separate returns the index of the first test that separates a and b, and what it says: -1 if a goes before b, 1 if b goes
// before a. If there is none, it returns -1 and 0.
func separate[T any](tests []func(a, b T) int, a, b T) (index, order int) {
	for i, test := range tests {
		if said := test(a, b); said != 0 {
			return i, said
		}
	}
	return -1, 0
}

// testsOf returns a test for each clause of a valid text.
func testsOf(c []api.Clause) []func(a, b placed) int {
	tests := make([]func(a, b placed) int, len(c))
	for i, x := range c {
		tests[i] = among(x.Among, testOf(x))
	}
	return tests
}

// among returns the test that counts only between guests of a rank, or for all if the rank is empty.
func among(rank string, test func(a, b placed) int) func(a, b placed) int {
	return func(a, b placed) int {
		if rank != "" && (a.Rank != rank || b.Rank != rank) {
			return 0
		}
		return test(a, b)
	}
}

// testOf returns what the kind of a valid clause says of two guests, whatever their ranks are.
func testOf(x api.Clause) func(a, b placed) int {
	switch x.Kind {
	case api.ByRank:
		return rankTest(x.Names)
	case api.ByElder:
		return yearTest(cmp.Compare[int])
	case api.ByYouth:
		return yearTest(func(one, other int) int { return cmp.Compare(other, one) })
	case api.BySide:
		return namingTest(x.Last, func(p placed) bool { return p.Side == x.N })
	case api.ByHost:
		return namingTest(x.Last, func(p placed) bool { return p.Host })
	case api.ByTongue:
		return namingTest(x.Last, func(p placed) bool {
			return slices.ContainsFunc(p.Tongues, func(tongue string) bool { return slices.Contains(x.Names, tongue) })
		})
	case api.ByCourt:
		return namingTest(x.Last, func(p placed) bool { return slices.Contains(x.Names, p.Court) })
	case api.ByName:
		return func(a, b placed) int { return cmp.Compare(a.Name, b.Name) }
	case api.ByList:
		return placeTest(func(place int) int { return place })
	}
	return placeTest(func(place int) int { return (place*(2*x.N+1) + x.N) % places })
}

// rankTest puts guests in the order of their ranks; those of other ranks go last.
func rankTest(ranks []string) func(a, b placed) int {
	step := func(p placed) int {
		if i := slices.Index(ranks, p.Rank); i >= 0 {
			return i
		}
		return len(ranks)
	}
	return func(a, b placed) int { return cmp.Compare(step(a), step(b)) }
}

// yearTest puts guests in an order of their years; those without one go last. No year can stand for that, as guests may have
// any number.
func yearTest(compare func(one, other int) int) func(a, b placed) int {
	unknown := namingTest(true, func(p placed) bool { return p.Since == 0 })
	return func(a, b placed) int { return cmp.Or(unknown(a, b), compare(a.Since, b.Since)) }
}

// namingTest puts those who are named first, or last.
func namingTest(last bool, named func(p placed) bool) func(a, b placed) int {
	return func(a, b placed) int {
		one, other := named(a), named(b)
		switch {
		case one == other:
			return 0
		case one != last:
			return -1
		}
		return 1
	}
}

// placeTest puts guests in the order of their places' keys.
func placeTest(key func(place int) int) func(a, b placed) int {
	isPlace := func(n int) bool { return n >= 0 && n < places }
	return func(a, b placed) int {
		if !isPlace(a.place) || !isPlace(b.place) {
			return 0
		}
		return cmp.Compare(key(a.place), key(b.place))
	}
}
