package evening_test

import (
	"fmt"
	"math"
	"math/rand"
	"reflect"
	"slices"
	"strconv"
	"strings"
	"testing"

	"trestle/api"
)

// orders are the field orders.
func orders() []int { return []int{2, 3, 4, 5, 7, 8, 9, 11, 13, 16} }

// strange returns numbers that are no guests, sizes or evenings, and some that may be.
func strange() []int {
	return []int{math.MinInt, math.MinInt + 1, -64, -2, -1, 0, 1, 2, 3, 4, 7, 15, 63, 64, 65, 1 << 31, math.MaxInt - 1, math.MaxInt}
}

// pick returns one of some values.
func pick[T any](r *rand.Rand, values ...T) T { return values[r.Intn(len(values))] }

// show returns a text of values in which a nil list and an empty list are the same.
func show(values ...any) string { return fmt.Sprintf("%+v", values) }

// same reports whether two schedules are equal.
func same(a, b [][][]int) bool {
	return slices.EqualFunc(a, b, func(x, y [][]int) bool { return slices.EqualFunc(x, y, slices.Equal[[]int]) })
}

// nothing reports whether values are zero values, as they are beside an error.
func nothing(values ...any) bool {
	return !slices.ContainsFunc(values, func(x any) bool {
		v := reflect.ValueOf(x)
		return !v.IsZero() && (v.Kind() != reflect.Slice || v.Len() > 0)
	})
}

// of returns the schedule of a text in which evenings are parted by ; and tables by /.
func of(t *testing.T, text string) [][][]int {
	t.Helper()
	var s [][][]int
	for evening := range strings.SplitSeq(text, ";") {
		var tables [][]int
		for part := range strings.SplitSeq(evening, "/") {
			var table []int
			for _, word := range strings.Fields(part) {
				g, err := strconv.Atoi(word)
				if err != nil {
					t.Fatal(text)
				}
				table = append(table, g)
			}
			tables = append(tables, table)
		}
		s = append(s, tables)
	}
	return s
}

// clone returns a schedule that shares no memory with another one.
func clone(s [][][]int) [][][]int {
	var out [][][]int
	for _, tables := range s {
		var copies [][]int
		for _, table := range tables {
			copies = append(copies, slices.Clone(table))
		}
		out = append(out, copies)
	}
	return out
}

// anySizes returns sizes that fit n guests.
func anySizes(r *rand.Rand, n int) []int {
	var sizes []int
	for n > 0 {
		size := 1 + r.Intn(min(n, pick(r, 1, 2, 3, 4, 9, 64)))
		sizes = append(sizes, size)
		n -= size
	}
	return sizes
}

// anySchedule returns a schedule with some sizes.
func anySchedule(r *rand.Rand, n int, sizes []int, evenings int) [][][]int {
	var s [][][]int
	for range evenings {
		guests := r.Perm(n)
		var tables [][]int
		for _, size := range sizes {
			tables, guests = append(tables, slices.Clone(guests[:size])), guests[size:]
		}
		s = append(s, tables)
	}
	return s
}

// anyEvenings returns a schedule on whose evenings there are different tables.
func anyEvenings(r *rand.Rand, n, evenings int) [][][]int {
	var s [][][]int
	for range evenings {
		s = append(s, anySchedule(r, n, anySizes(r, n), 1)...)
	}
	return s
}

// place tells where a guest sits: at which table, and which of its seats.
func place(tables [][]int, g int) (table, seat int) {
	for i := range tables {
		if k := slices.Index(tables[i], g); k >= 0 {
			return i, k
		}
	}
	return -1, -1
}

// meets returns the evenings on which two guests meet.
func meets(s [][][]int, a, b int) []int {
	var list []int
	for e, tables := range s {
		i, _ := place(tables, a)
		k, _ := place(tables, b)
		if a != b && i >= 0 && i == k {
			list = append(list, e)
		}
	}
	return list
}

// besides returns how often two guests are beside each other.
func besides(s [][][]int, a, b int) int {
	n := 0
	for _, e := range meets(s, a, b) {
		i, k := place(s[e], a)
		_, m := place(s[e], b)
		last := len(s[e][i]) - 1
		if k-m == 1 || m-k == 1 || k+m == last && k*m == 0 {
			n++
		}
	}
	return n
}

// numbers returns how often each two guests meet, for all pairs of different guests.
func numbers(n int, s [][][]int) []int {
	var list []int
	for a := range n {
		for b := range a {
			list = append(list, len(meets(s, a, b)))
		}
	}
	return list
}

// strain returns the strain of a schedule.
func strain(n int, s [][][]int) int {
	sum := 0
	for _, k := range numbers(n, s) {
		sum += k * k
	}
	return sum
}

// check returns what is wrong first with a schedule. It asks one thing after the other.
func check(n int, sizes []int, s [][][]int) (int, api.Errno) {
	if n < 1 || n > 64 || len(sizes) > 0 && !fits(n, sizes) {
		return 0, api.ErrSize
	}
	if len(s) > 64 {
		return 0, api.ErrMany
	}
	for e, tables := range s {
		if what := checkEvening(n, sizes, tables); what != api.OK {
			return e, what
		}
	}
	return 0, api.OK
}

func checkEvening(n int, sizes []int, tables [][]int) api.Errno {
	var have, all []int
	for _, table := range tables {
		have, all = append(have, len(table)), append(all, table...)
	}
	if slices.Contains(have, 0) || len(sizes) > 0 && !slices.Equal(have, sizes) {
		return api.ErrArg
	}
	slices.Sort(all)
	if len(all) > 0 && (all[0] < 0 || all[len(all)-1] >= n) {
		return api.ErrUnknown
	}
	once := slices.Compact(slices.Clone(all))
	if len(once) < len(all) {
		return api.ErrTwice
	}
	if len(once) < n {
		return api.ErrArg
	}
	return api.OK
}

// fits reports whether sizes fit n guests, in floating numbers, whose sums do not overflow.
func fits(n int, sizes []int) bool {
	sum := 0.0
	for _, size := range sizes {
		if size < 1 {
			return false
		}
		sum += float64(size)
	}
	return sum == float64(n)
}

// exchanged returns a schedule after two guests exchanged their seats on an evening, if they sit at different tables.
func exchanged(s [][][]int, e, x, y int) ([][][]int, bool) {
	i, k := place(s[e], x)
	j, m := place(s[e], y)
	if i == j {
		return nil, false
	}
	out := clone(s)
	out[e][i][k], out[e][j][m] = y, x
	return out, true
}

// better returns the schedule that the first exchange makes that makes the strain less, if there is one.
func better(n int, s [][][]int) ([][][]int, bool) {
	now := strain(n, s)
	for e := range s {
		for x := range n {
			for y := x + 1; y < n; y++ {
				if next, ok := exchanged(s, e, x, y); ok && strain(n, next) < now {
					return next, true
				}
			}
		}
	}
	return nil, false
}

// polish returns what exchanges make of a schedule, and how many.
func polish(n int, s [][][]int, rounds int) ([][][]int, int) {
	made := 0
	for ; made < rounds; made++ {
		next, ok := better(n, s)
		if !ok {
			break
		}
		s = next
	}
	return s, made
}

// fill returns a schedule that is filled step by step.
func fill(n int, sizes []int, evenings int) [][][]int {
	var s [][][]int
	for range evenings {
		var free []int
		for g := range n {
			free = append(free, g)
		}
		var tables [][]int
		for _, size := range sizes {
			var table []int
			for range size {
				// Of several the first one is taken, who has the least number.
				g := slices.MinFunc(free, func(a, b int) int { return slices.Compare(burden(s, a, table), burden(s, b, table)) })
				table = append(table, g)
				free = slices.DeleteFunc(free, func(x int) bool { return x == g })
			}
			tables = append(tables, table)
		}
		s = append(s, tables)
	}
	return s
}

// burden returns how often a guest met one of a table, at most, and the sum of these numbers.
func burden(s [][][]int, g int, table []int) []int {
	most, sum := 0, 0
	for _, h := range table {
		k := len(meets(s, g, h))
		most, sum = max(most, k), sum+k
	}
	return []int{most, sum}
}

// hosts returns the hosts of all tables.
func hosts(s [][][]int) [][]int {
	var list [][]int
	var before []int
	for _, tables := range s {
		var names []int
		for _, table := range tables {
			host := slices.MinFunc(table, func(a, b int) int {
				return slices.Compare([]int{times(before, a), a}, []int{times(before, b), b})
			})
			names, before = append(names, host), append(before, host)
		}
		list = append(list, names)
	}
	return list
}

// times returns how often a number is in a list.
func times(list []int, n int) int {
	k := 0
	for _, m := range list {
		if m == n {
			k++
		}
	}
	return k
}

// write returns the text of a schedule.
func write(s [][][]int) string {
	var text strings.Builder
	for _, tables := range s {
		var parts []string
		for _, table := range tables {
			parts = append(parts, strings.Trim(fmt.Sprint(table), "[]"))
		}
		text.WriteString(strings.Join(parts, " / ") + "\n")
	}
	return text.String()
}

// poly is a polynomial: its coefficients, from that of the power 0 on.
type poly []int

// polyOf returns the polynomial of an element in base p with m digits.
func polyOf(a, p, m int) poly {
	var c poly
	for range m {
		c, a = append(c, a%p), a/p
	}
	return c
}

// element returns the element of a polynomial.
func (c poly) element(p int) int {
	a := 0
	for i := len(c) - 1; i >= 0; i-- {
		a = a*p + c[i]
	}
	return a
}

// modulus returns the prime of a field, and the polynomial by which products are reduced.
func modulus(q int) (int, poly) {
	switch q {
	case 4:
		return 2, poly{1, 1, 1}
	case 8:
		return 2, poly{1, 1, 0, 1}
	case 9:
		return 3, poly{1, 0, 1}
	case 16:
		return 2, poly{1, 1, 0, 0, 1}
	}
	return q, poly{0, 1}
}

// add returns a sum in a field.
func add(q, a, b int) int {
	p, by := modulus(q)
	c, d := polyOf(a, p, len(by)-1), polyOf(b, p, len(by)-1)
	for i := range c {
		c[i] = (c[i] + d[i]) % p
	}
	return c.element(p)
}

// mul returns a product in a field: the whole product is taken first, and then divided.
func mul(q, a, b int) int {
	p, by := modulus(q)
	m := len(by) - 1
	c, d, product := polyOf(a, p, m), polyOf(b, p, m), make(poly, 2*m-1)
	for i := range c {
		for k := range d {
			product[i+k] = (product[i+k] + c[i]*d[k]) % p
		}
	}
	for top := len(product) - 1; top >= m; top-- {
		times := product[top]
		for i := range by {
			product[top-m+i] = (product[top-m+i] + (p-times)*by[i]) % p
		}
	}
	return product[:m].element(p)
}

// season returns the evenings of a number on which each guest sits alone.
func season(n, evenings int) [][][]int {
	var tables [][]int
	for g := range n {
		tables = append(tables, []int{g})
	}
	return slices.Repeat([][][]int{tables}, evenings)
}

// wrongs returns schedules that are not valid, with the number of their guests.
func wrongs() []struct {
	n int
	s [][][]int
} {
	return []struct {
		n int
		s [][][]int
	}{
		{0, nil}, {-1, nil}, {65, nil}, {math.MinInt, nil}, {math.MaxInt, nil}, {0, [][][]int{{}}}, {65, season(65, 1)},
		{1, season(1, 65)}, {2, season(1, 1)}, {2, season(3, 1)}, {2, [][][]int{{}}}, {2, [][][]int{nil}}, {2, [][][]int{{{0, 1}, {}}}},
		{2, [][][]int{{{0, 1}}, {{0, 0}}}}, {2, [][][]int{{{0, 1}}, {{0}, {-1}}}}, {2, [][][]int{{{0, 1}}, {{0}, {1}, {0}}}},
	}
}
