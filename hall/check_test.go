package hall_test

import (
	"math"
	"strings"
	"testing"

	"trestle/api"
	"trestle/hall"
)

// P1.1: each shape has the valid sizes of its description and no others.
func TestCheckSizes(t *testing.T) {
	type size struct {
		s    api.Shape
		a, b int
	}
	valid := map[size]bool{}
	for _, x := range sizes() {
		valid[size{x.Shape, x.A, x.B}] = true
	}
	numbers := []int{math.MinInt, math.MaxInt, math.MaxInt/2 + 1}
	for n := -2; n <= 30; n++ {
		numbers = append(numbers, n)
	}
	for s := range 256 {
		for _, a := range numbers {
			for _, b := range numbers {
				want := api.ErrShape
				if valid[size{api.Shape(s), a, b}] {
					want = api.OK
				}
				x := api.Table{Name: "sun", Shape: api.Shape(s), A: a, B: b}
				if e := hall.Check(x); e != want {
					t.Fatalf("Check(%v) is %d, not %d", x, e, want)
				}
			}
		}
	}
}

// P1.1: Check finds its errors, and of several the one that is named first.
func TestCheckErrors(t *testing.T) {
	ok := api.Table{Name: "sun", Shape: api.Row, A: 5, Open: []int{0, 2, 4}, X: 1000, Y: 0}
	for _, x := range []struct {
		what   string
		e      api.Errno
		change func(t *api.Table)
	}{
		{"nothing", api.OK, func(t *api.Table) {}},
		{"12 letters", api.OK, func(t *api.Table) { t.Name = "abcdefghxyza" }},
		{"1 letter", api.OK, func(t *api.Table) { t.Name = "z" }},
		{"empty name", api.ErrName, func(t *api.Table) { t.Name = "" }},
		{"13 letters", api.ErrName, func(t *api.Table) { t.Name = "abcdefghxyzab" }},
		{"long name", api.ErrName, func(t *api.Table) { t.Name = strings.Repeat("a", 100000) }},
		{"capital", api.ErrName, func(t *api.Table) { t.Name = "suN" }},
		{"byte below a", api.ErrName, func(t *api.Table) { t.Name = "su`" }},
		{"byte above z", api.ErrName, func(t *api.Table) { t.Name = "su{" }},
		{"digit", api.ErrName, func(t *api.Table) { t.Name = "sun1" }},
		{"hyphen", api.ErrName, func(t *api.Table) { t.Name = "-" }},
		{"letter of two bytes", api.ErrName, func(t *api.Table) { t.Name = "sün" }},
		{"all open", api.OK, func(t *api.Table) { t.Open = []int{0, 1, 2, 3, 4} }},
		{"none open", api.OK, func(t *api.Table) { t.Open = []int{} }},
		{"open not increasing", api.ErrOpen, func(t *api.Table) { t.Open = []int{2, 1} }},
		{"open twice", api.ErrOpen, func(t *api.Table) { t.Open = []int{1, 1} }},
		{"open too large", api.ErrOpen, func(t *api.Table) { t.Open = []int{0, 5} }},
		{"open negative", api.ErrOpen, func(t *api.Table) { t.Open = []int{-1, 0} }},
		{"many open", api.ErrOpen, func(t *api.Table) { t.Open = make([]int, 100000) }},
		{"X negative", api.ErrArg, func(t *api.Table) { t.X = -1 }},
		{"X too large", api.ErrArg, func(t *api.Table) { t.X = 1001 }},
		{"Y negative", api.ErrArg, func(t *api.Table) { t.Y = -1 }},
		{"Y too large", api.ErrArg, func(t *api.Table) { t.Y = math.MaxInt }},
		{"X and Y greatest", api.OK, func(t *api.Table) { t.Y = 1000 }},
		{"name and shape", api.ErrName, func(t *api.Table) { t.Name, t.Shape = "", 9 }},
		{"shape and open", api.ErrShape, func(t *api.Table) { t.B, t.Open = 6, []int{9} }},
		{"open and place", api.ErrOpen, func(t *api.Table) { t.Open, t.X = []int{5}, -1 }},
	} {
		table := ok
		x.change(&table)
		if e := hall.Check(table); e != x.e {
			t.Errorf("%s: %d, not %d", x.what, e, x.e)
		}
	}
}

// P1.1: CheckAll tells the first table with an error.
func TestCheckAll(t *testing.T) {
	many := wrong()["many"]
	bad := append([]api.Table{round("", 1)}, many[:16]...)
	for _, x := range []struct {
		what string
		l    []api.Table
		i    int
		e    api.Errno
	}{
		{"no tables", nil, 0, api.OK},
		{"an empty list", []api.Table{}, 0, api.OK},
		{"16 tables", many[:16], 0, api.OK},
		{"17 tables", many, 0, api.ErrMany},
		{"17 tables, the first one wrong", bad, 0, api.ErrMany},
		{"a name twice", []api.Table{round("a", 1), round("b", 1), round("b", 2), round("a", 3)}, 2, api.ErrTwice},
		{"wrong, then twice", []api.Table{round("a", 1), round("b", 0), round("a", 1)}, 1, api.ErrShape},
		{"twice, then wrong", []api.Table{round("a", 1), round("a", 1), round("b", 0)}, 1, api.ErrTwice},
		{"twice and wrong", []api.Table{round("a", 1), round("a", 99)}, 1, api.ErrShape},
		{"an empty name twice", []api.Table{round("a", 1), round("", 1), round("", 1)}, 1, api.ErrName},
	} {
		if i, e := hall.CheckAll(x.l); i != x.i || e != x.e {
			t.Errorf("%s: %d, %d, not %d, %d", x.what, i, e, x.i, x.e)
		}
	}
}

// P1.1: the number of seats of each table.
func TestSeats(t *testing.T) {
	for _, x := range sizes() {
		if n := hall.Seats(x); n != modelOf(x).n || n > 24 {
			t.Errorf("Seats(%v) is %d", x, n)
		}
	}
	for what, l := range wrong() {
		if what != "twice" && what != "many" && hall.Seats(l[1]) != 0 {
			t.Errorf("%s: seats of a wrong table", what)
		}
	}
}

// P1.1: the seats of a hall are numbered table by table.
func TestNumbering(t *testing.T) {
	l := []api.Table{round("a", 4), {Name: "b", Shape: api.Long, A: 3, B: 2}, {Name: "c", Shape: api.Horseshoe, A: 2, B: 1}, {Name: "d", Shape: api.Row, A: 1}}
	seat := 0
	for i, x := range l {
		if first := hall.First(l, i); first != seat {
			t.Errorf("First(%d) is %d, not %d", i, first, seat)
		}
		if j, ok := hall.Find(l, x.Name); j != i || !ok {
			t.Errorf("Find(%s) is %d, %t", x.Name, j, ok)
		}
		for k := range hall.Seats(x) {
			if j, m, ok := hall.Where(l, seat); j != i || m != k || !ok {
				t.Errorf("Where(%d) is %d, %d, %t", seat, j, m, ok)
			}
			seat++
		}
	}
	if n := hall.Count(l); n != seat || n != 17 {
		t.Errorf("Count is %d", n)
	}
	for _, i := range []int{-1, 4, math.MinInt, math.MaxInt} {
		if first := hall.First(l, i); first != 0 {
			t.Errorf("First(%d) is %d", i, first)
		}
	}
	for _, s := range []int{-1, 17, math.MinInt, math.MaxInt} {
		if i, k, ok := hall.Where(l, s); i != 0 || k != 0 || ok {
			t.Errorf("Where(%d) is %d, %d, %t", s, i, k, ok)
		}
	}
	for _, name := range []string{"", "e", "ab", "A"} {
		if i, ok := hall.Find(l, name); i != 0 || ok {
			t.Errorf("Find(%q) is %d, %t", name, i, ok)
		}
	}
}

// P1.1: a hall without tables has no seats; one that is not valid has neither seats nor tables.
func TestNoHall(t *testing.T) {
	halls := wrong()
	halls["nil"] = nil
	halls["empty"] = []api.Table{}
	for what, l := range halls {
		i, found := hall.Find(l, "a")
		j, k, ok := hall.Where(l, 0)
		if hall.Count(l) != 0 || hall.First(l, 1) != 0 || i != 0 || found || j != 0 || k != 0 || ok {
			t.Errorf("%s: something was found", what)
		}
	}
}
