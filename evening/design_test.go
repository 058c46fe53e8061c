package evening_test

import (
	"math"
	"slices"
	"testing"

	"trestle/api"
	"trestle/evening"
)

// meetOnce fails a test if s is no schedule with sizes, or two guests do not meet just as often as a question tells.
func meetOnce(t *testing.T, n int, sizes []int, s [][][]int, want func(a, b int) int) {
	t.Helper()
	if i, e := evening.Check(n, sizes, s); e != api.OK {
		t.Fatal(n, sizes, s, i, e)
	}
	for a := range n {
		for b := range a {
			if k := len(meets(s, a, b)); k != want(a, b) {
				t.Fatalf("%v: %d and %d meet %d times", s, a, b, k)
			}
		}
	}
}

// once is the answer that two guests meet once.
func once(int, int) int { return 1 }

// P9.4: the round robin, as the chapter describes it, and that each two guests meet exactly once.
func TestPairs(t *testing.T) {
	for n := 2; n <= 64; n++ {
		m := n + n%2
		var want [][][]int
		for e := 0; e <= m-2; e++ {
			tables := [][]int{{m - 1, e}}
			if n%2 == 1 {
				tables[0] = []int{e}
			}
			for i := 1; i <= m/2-1; i++ {
				less := e - i
				if less < 0 {
					less += m - 1
				}
				tables = append(tables, []int{(e + i) % (m - 1), less})
			}
			want = append(want, tables)
		}
		s, e := evening.Pairs(n)
		if !same(s, want) || e != api.OK {
			t.Fatalf("%d: %v, %d", n, s, e)
		}
		sizes := slices.Repeat([]int{2}, m/2)
		if n%2 == 1 {
			sizes[0] = 1
		}
		meetOnce(t, n, sizes, s, once)
	}
	for n, text := range map[int]string{2: "1 0", 3: "0 / 1 2; 1 / 2 0; 2 / 0 1", 4: "3 0 / 1 2; 3 1 / 2 0; 3 2 / 0 1", 5: "0 / 1 4 / 2 3; 1 / 2 0 / 3 4; 2 / 3 1 / 4 0; 3 / 4 2 / 0 1; 4 / 0 3 / 1 2"} {
		if s, _ := evening.Pairs(n); !same(s, of(t, text)) {
			t.Error(n, s)
		}
	}
	for _, n := range []int{math.MinInt, -2, -1, 0, 1, 65, 66, math.MaxInt} {
		if s, e := evening.Pairs(n); s != nil || e != api.ErrSize {
			t.Error(n, s, e)
		}
	}
}

// P9.4: the rings, as the chapter describes them, and that each two guests are beside each other exactly once.
func TestRings(t *testing.T) {
	for n := 3; n <= 64; n++ {
		s, e := evening.Rings(n)
		if n%2 == 0 {
			if s != nil || e != api.ErrDesign {
				t.Error(n, s, e)
			}
			continue
		}
		m := (n - 1) / 2
		var want [][][]int
		for i := range m {
			table := []int{n - 1}
			for k := range 2 * m {
				// i, i + 1, i - 1, i + 2, i - 2, ..
				step := (k + 1) / 2
				if k%2 == 0 {
					step = -step
				}
				table = append(table, (i+step+2*m)%(2*m))
			}
			want = append(want, [][]int{table})
		}
		if !same(s, want) || e != api.OK {
			t.Fatalf("%d: %v, %d", n, s, e)
		}
		for a := range n {
			for b := range a {
				if besides(s, a, b) != 1 {
					t.Fatalf("%v: %d and %d", s, a, b)
				}
			}
		}
		if i, e := evening.Check(n, []int{n}, s); i != 0 || e != api.OK {
			t.Error(n, i, e)
		}
	}
	for n, text := range map[int]string{3: "2 0 1", 5: "4 0 1 3 2; 4 1 2 0 3", 7: "6 0 1 5 2 4 3; 6 1 2 0 3 5 4; 6 2 3 1 4 0 5"} {
		if s, _ := evening.Rings(n); !same(s, of(t, text)) {
			t.Error(n, s)
		}
	}
	for _, n := range []int{math.MinInt, -3, -1, 0, 1, 2, 65, 66, 67, math.MaxInt} {
		if s, e := evening.Rings(n); s != nil || e != api.ErrSize {
			t.Error(n, s, e)
		}
	}
}

// net returns the evenings of a net, by the fields of the model.
func net(k, q int) [][][]int {
	var s [][][]int
	for a := range q {
		var tables [][]int
		for b := range q {
			var table []int
			for r := range k {
				table = append(table, r*q+add(q, mul(q, a, r), b))
			}
			tables = append(tables, table)
		}
		s = append(s, tables)
	}
	return s
}

// P9.4: nets, and that guests of different rows meet exactly once, and guests of the same row never.
func TestNet(t *testing.T) {
	for _, q := range append(orders(), -1, 0, 1, 6, 10, 12, 14, 15, 17, 32, 64, math.MinInt, math.MaxInt) {
		for _, k := range append(strange(), 5, 6, 8, 9, 10, 11, 12, 13, 14, 16, 17) {
			s, e := evening.Net(k, q)
			if !slices.Contains(orders(), q) || k < 1 || k > q || k*q > 64 {
				if s != nil || e != api.ErrSize {
					t.Errorf("%d, %d: %v, %d", k, q, s, e)
				}
				continue
			}
			if !same(s, net(k, q)) || e != api.OK || len(s) != q {
				t.Fatalf("%d, %d: %v, %d", k, q, s, e)
			}
			meetOnce(t, k*q, slices.Repeat([]int{k}, q), s, func(a, b int) int {
				if a/q == b/q {
					return 0
				}
				return 1
			})
		}
	}
	if s, _ := evening.Net(2, 3); !same(s, of(t, "0 3 / 1 4 / 2 5; 0 4 / 1 5 / 2 3; 0 5 / 1 3 / 2 4")) {
		t.Error(s)
	}
	// By hand: in the field with 4 elements, 2 times 2 is 3 and 2 times 3 is 1.
	if s, _ := evening.Net(4, 4); show(s[2]) != show(of(t, "0 6 11 13 / 1 7 10 12 / 2 4 9 15 / 3 5 8 14")[0]) {
		t.Error(s[2])
	}
	if s, _ := evening.Net(4, 16); len(s) != 16 || len(s[0]) != 16 {
		t.Error(s)
	}
}

// P9.4: planes, and that each two guests meet exactly once.
func TestPlane(t *testing.T) {
	for _, q := range append(orders(), append(strange(), 6, 10, 12)...) {
		s, e := evening.Plane(q)
		if !slices.Contains([]int{2, 3, 4, 5, 7, 8}, q) {
			if s != nil || e != api.ErrSize {
				t.Error(q, s, e)
			}
			continue
		}
		want := net(q, q)
		var last [][]int
		for r := range q {
			var table []int
			for v := range q {
				table = append(table, r*q+v)
			}
			last = append(last, table)
		}
		if !same(s, append(want, last)) || e != api.OK {
			t.Fatalf("%d: %v, %d", q, s, e)
		}
		meetOnce(t, q*q, slices.Repeat([]int{q}, q), s, once)
		// There cannot be more evenings.
		if evening.MostEvenings(q*q, slices.Repeat([]int{q}, q), 1) != q+1 {
			t.Error(q)
		}
	}
	if s, _ := evening.Plane(2); !same(s, of(t, "0 2 / 1 3; 0 3 / 1 2; 0 1 / 2 3")) {
		t.Error(s)
	}
}

// kirkman returns Kirkman's system as the chapter writes it.
func kirkman() [][][]int {
	var s [][][]int
	for j := range 7 {
		a := func(i int) int { return (i + j) % 7 }
		b := func(i int) int { return 7 + (i+j)%7 }
		const z = 14
		s = append(s, [][]int{{z, a(0), b(0)}, {a(1), a(6), b(5)}, {a(2), a(5), b(3)}, {a(3), a(4), b(6)}, {b(1), b(2), b(4)}})
	}
	return s
}

// P9.4: Kirkman's system.
func TestKirkman(t *testing.T) {
	s := evening.Kirkman()
	if !same(s, kirkman()) || show(s[0]) != show(of(t, "14 0 7 / 1 6 12 / 2 5 10 / 3 4 13 / 8 9 11")[0]) {
		t.Error(s)
	}
	meetOnce(t, 15, []int{3, 3, 3, 3, 3}, s, once)
}

// candidates returns the designs that the chapter lists, in order.
func candidates(n, size int) [][][][]int {
	var list [][][][]int
	if size == n {
		var table []int
		for g := range n {
			table = append(table, g)
		}
		list = append(list, [][][]int{{table}})
	}
	if size == 1 {
		list = append(list, season(n, 64))
	}
	if size == 2 && n%2 == 0 {
		s, _ := evening.Pairs(n)
		list = append(list, s)
	}
	if size == 3 && n == 15 {
		list = append(list, kirkman())
	}
	if s, e := evening.Plane(size); n == size*size && e == api.OK {
		list = append(list, s)
	}
	if s, e := evening.Net(size, n/size); e == api.OK {
		list = append(list, s)
	}
	return list
}

// P9.4: all designs.
func TestDesign(t *testing.T) {
	found := 0
	for n := 1; n <= 64; n++ {
		for size := 1; size <= n; size++ {
			if n%size > 0 {
				if s, e := evening.Design(n, size, 1); s != nil || e != api.ErrSize {
					t.Error(n, size, s, e)
				}
				continue
			}
			list := candidates(n, size)
			for evenings := range 65 {
				s, e := evening.Design(n, size, evenings)
				i := slices.IndexFunc(list, func(c [][][]int) bool { return len(c) >= evenings })
				switch {
				case evenings == 0:
					if len(s) != 0 || e != api.OK {
						t.Errorf("%d, %d, 0: %v, %d", n, size, s, e)
					}
				case i < 0:
					if s != nil || e != api.ErrDesign {
						t.Errorf("%d, %d, %d: %v, %d", n, size, evenings, s, e)
					}
				default:
					found++
					if !same(s, list[i][:evenings]) || e != api.OK {
						t.Errorf("%d, %d, %d: %v, %d", n, size, evenings, s, e)
					}
					// If guests meet once at most on all evenings, so they do on the first ones.
					if k, e := evening.Check(n, slices.Repeat([]int{size}, n/size), s); e != api.OK || evenings == len(list[i]) && evening.Most(n, s) > 1 {
						t.Errorf("%d, %d, %d: %v: %d, %d", n, size, evenings, s, k, e)
					}
				}
			}
		}
	}
	if found < 64*64 {
		t.Error(found)
	}
}

// P9.4: designs of each kind, and between them, by the chapter's list.
func TestDesignExamples(t *testing.T) {
	for _, x := range []struct {
		n, size, evenings int
		text              string
	}{
		{3, 3, 1, "0 1 2"}, {1, 1, 1, "0"}, {1, 1, 3, "0; 0; 0"}, {3, 1, 2, "0 / 1 / 2; 0 / 1 / 2"}, {2, 2, 1, "0 1"},
		{4, 2, 1, "3 0 / 1 2"}, {4, 2, 3, "3 0 / 1 2; 3 1 / 2 0; 3 2 / 0 1"}, {15, 3, 1, "14 0 7 / 1 6 12 / 2 5 10 / 3 4 13 / 8 9 11"},
		{9, 3, 1, "0 3 6 / 1 4 7 / 2 5 8"}, {12, 3, 1, "0 4 8 / 1 5 9 / 2 6 10 / 3 7 11"}, {20, 4, 1, "0 5 10 15 / 1 6 11 16 / 2 7 12 17 / 3 8 13 18 / 4 9 14 19"},
	} {
		if s, e := evening.Design(x.n, x.size, x.evenings); !same(s, of(t, x.text)) || e != api.OK {
			t.Errorf("%v: %v, %d", x, s, e)
		}
	}
	for _, x := range []struct {
		n, size, evenings int
		e                 api.Errno
	}{
		{64, 64, 1, api.OK}, {64, 64, 2, api.ErrDesign}, {64, 8, 9, api.OK}, {64, 8, 10, api.ErrDesign}, {64, 4, 16, api.OK}, {64, 4, 17, api.ErrDesign}, {64, 2, 63, api.OK}, {64, 2, 64, api.ErrDesign}, {64, 1, 64, api.OK},
		{2, 2, 2, api.ErrDesign}, {6, 3, 1, api.ErrDesign}, {6, 3, 0, api.OK}, {36, 6, 0, api.OK}, {36, 6, 1, api.ErrDesign}, {18, 3, 1, api.ErrDesign}, {15, 3, 8, api.ErrDesign}, {15, 5, 1, api.ErrDesign}, {16, 4, 5, api.OK}, {16, 4, 6, api.ErrDesign},
		// The numbers of guests come before the number of evenings.
		{0, 1, 1, api.ErrSize}, {-4, 2, 1, api.ErrSize}, {65, 1, 1, api.ErrSize}, {65, 5, -1, api.ErrSize}, {math.MaxInt, 1, 1, api.ErrSize}, {math.MinInt, -1, 1, api.ErrSize}, {math.MinInt, 1, 1, api.ErrSize}, {0, 0, 0, api.ErrSize},
		{6, 0, 1, api.ErrSize}, {6, -1, 1, api.ErrSize}, {6, -3, 1, api.ErrSize}, {6, 7, 1, api.ErrSize}, {6, 12, 1, api.ErrSize}, {6, 4, 0, api.ErrSize}, {6, 4, 65, api.ErrSize}, {6, math.MinInt, 1, api.ErrSize}, {6, math.MaxInt, 1, api.ErrSize},
		{6, 3, -1, api.ErrArg}, {6, 3, 65, api.ErrArg}, {6, 1, 65, api.ErrArg}, {6, 6, math.MinInt, api.ErrArg}, {6, 6, math.MaxInt, api.ErrArg},
	} {
		s, e := evening.Design(x.n, x.size, x.evenings)
		if e != x.e || e != api.OK && s != nil || e == api.OK && len(s) != x.evenings {
			t.Errorf("%v: %v, %d", x, s, e)
		}
	}
}
