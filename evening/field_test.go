package evening_test

import (
	"math"
	"slices"
	"testing"

	"trestle/evening"
)

// P9.3: sums and products, against polynomials that are multiplied and then divided.
func TestField(t *testing.T) {
	for _, q := range orders() {
		for a := range q {
			for b := range q {
				sum, is := evening.Add(q, a, b)
				product, ok := evening.Mul(q, a, b)
				if sum != add(q, a, b) || product != mul(q, a, b) || !is || !ok {
					t.Errorf("%d: %d and %d: %d, %d", q, a, b, sum, product)
				}
			}
		}
	}
}

// P9.3: the chapter's examples, and others that were calculated by hand.
func TestFieldExamples(t *testing.T) {
	for _, x := range []struct{ q, a, b, sum, product int }{
		{4, 2, 3, 1, 1}, {9, 3, 3, 6, 2}, {9, 4, 8, 0, 3}, {2, 1, 1, 0, 1}, {3, 2, 2, 1, 1}, {5, 3, 4, 2, 2}, {11, 7, 8, 4, 1}, {13, 12, 12, 11, 1},
		{8, 4, 4, 0, 6}, {8, 7, 7, 0, 3}, {8, 4, 2, 6, 3}, {16, 8, 8, 0, 12}, {16, 15, 15, 0, 10}, {16, 9, 2, 11, 1}, {9, 8, 8, 4, 6}, {9, 6, 6, 3, 2},
	} {
		sum, _ := evening.Add(x.q, x.a, x.b)
		product, _ := evening.Mul(x.q, x.a, x.b)
		if sum != x.sum || product != x.product {
			t.Errorf("%v: %d, %d", x, sum, product)
		}
	}
}

// P9.3: they make a field.
func TestFieldLaws(t *testing.T) {
	for _, q := range orders() {
		plus := func(a, b int) int { n, _ := evening.Add(q, a, b); return n }
		times := func(a, b int) int { n, _ := evening.Mul(q, a, b); return n }
		for a := range q {
			var sums, products []int
			for b := range q {
				sums, products = append(sums, plus(a, b)), append(products, times(a, b))
				if plus(a, b) != plus(b, a) || times(a, b) != times(b, a) || plus(a, b) < 0 || plus(a, b) >= q || times(a, b) < 0 || times(a, b) >= q {
					t.Fatal(q, a, b)
				}
				for c := range q {
					if plus(plus(a, b), c) != plus(a, plus(b, c)) || times(times(a, b), c) != times(a, times(b, c)) || times(a, plus(b, c)) != plus(times(a, b), times(a, c)) {
						t.Fatal(q, a, b, c)
					}
				}
			}
			if plus(a, 0) != a || times(a, 1) != a || !slices.Contains(sums, 0) || a != 0 && !slices.Contains(products, 1) {
				t.Error(q, a, sums, products)
			}
		}
	}
}

// P9.3: what is no field order, and what is no element.
func TestNoField(t *testing.T) {
	none := func(q, a, b int) {
		t.Helper()
		sum, is := evening.Add(q, a, b)
		product, ok := evening.Mul(q, a, b)
		if sum != 0 || product != 0 || is || ok {
			t.Errorf("%d: %d and %d: %d, %t, %d, %t", q, a, b, sum, is, product, ok)
		}
	}
	numbers := strange()
	for q := -5; q < 300; q++ {
		numbers = append(numbers, q)
	}
	for _, q := range numbers {
		if !slices.Contains(orders(), q) {
			none(q, 0, 0)
			none(q, 1, 1)
			none(q, 0, 1)
		}
	}
	for _, q := range orders() {
		for _, a := range []int{math.MinInt, -q, -1, q, q + 1, 2 * q, math.MaxInt} {
			for _, b := range []int{math.MinInt, -1, 0, 1, q - 1, q, math.MaxInt} {
				none(q, a, b)
				none(q, b, a)
			}
		}
	}
}
