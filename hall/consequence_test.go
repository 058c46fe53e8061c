package hall_test

import (
	"math"
	"math/rand"
	"reflect"
	"slices"
	"testing"

	"trestle/api"
	"trestle/hall"
)

// P1.7: the distance is a metric on each block.
func TestMetric(t *testing.T) {
	for _, x := range sizes() {
		l := []api.Table{x}
		for _, block := range hall.Blocks(l, 0) {
			d := map[[2]int]int{}
			for _, a := range block {
				for _, b := range block {
					n, ok := hall.Distance(l, a, b)
					d[[2]int{a, b}] = n
					if !ok || (n == 0) != (a == b) || n < 0 {
						t.Fatalf("%v: distance of %d and %d", x, a, b)
					}
				}
			}
			for _, a := range block {
				for _, b := range block {
					for _, c := range block {
						if d[[2]int{a, b}] != d[[2]int{b, a}] || d[[2]int{a, c}] > d[[2]int{a, b}]+d[[2]int{b, c}] {
							t.Fatalf("%v: distances of %d, %d and %d", x, a, b, c)
						}
					}
				}
			}
		}
	}
}

// P1.7: the turns of a table are a group.
func TestGroup(t *testing.T) {
	for _, x := range sizes() {
		n := hall.Seats(x)
		for _, open := range openings(n) {
			x.Open = open
			turns := hall.Turns(x)
			has := func(p []int) bool {
				return slices.ContainsFunc(turns, func(q []int) bool { return slices.Equal(p, q) })
			}
			if len(turns) == 0 || !slices.IsSorted(turns[0]) {
				t.Fatalf("%v: the identity is not the first turn", x)
			}
			for i, p := range turns {
				if !has(hall.Invert(p)) || i > 0 && slices.Compare(turns[i-1], p) >= 0 {
					t.Fatalf("%v: turn %v", x, p)
				}
				for _, q := range turns {
					if !has(hall.Compose(p, q)) {
						t.Fatalf("%v: turns %v and %v", x, p, q)
					}
				}
			}
		}
	}
}

// P1.7: turns keep distances.
func TestTurnsKeepDistances(t *testing.T) {
	for _, x := range sizes() {
		l := []api.Table{x}
		n := hall.Seats(x)
		type found struct {
			d  int
			ok bool
		}
		d := make([][]found, n)
		for a := range d {
			for b := range n {
				k, ok := hall.Distance(l, a, b)
				d[a] = append(d[a], found{k, ok})
			}
		}
		for _, p := range hall.Turns(x) {
			for a := range n {
				for b := range n {
					if d[a][b] != d[p[a]][p[b]] {
						t.Fatalf("%v: turn %v, seats %d and %d", x, p, a, b)
					}
				}
			}
		}
	}
}

// P1.7: what keeps Beside and Open of a round table with at least three seats is a turn.
func TestRoundTurns(t *testing.T) {
	for n := 3; n <= 7; n++ {
		for _, open := range openings(n) {
			x := api.Table{Name: "a", Shape: api.Round, A: n, Open: open}
			l := []api.Table{x}
			var want [][]int
			for _, p := range orders(n) {
				if keepsBesideAndOpen(l, p) {
					want = append(want, p)
				}
			}
			if got := hall.Turns(x); !equal(got, want) {
				t.Errorf("%v: %v, not %v", x, got, want)
			}
		}
	}
}

func keepsBesideAndOpen(l []api.Table, p []int) bool {
	for a := range p {
		if hall.Open(l, a) != hall.Open(l, p[a]) {
			return false
		}
		for b := range a {
			if hall.Beside(l, a, b) != hall.Beside(l, p[a], p[b]) {
				return false
			}
		}
	}
	return true
}

// P1.7: turns that leave a seat, times the seats to which turns move it, are all turns.
func TestOrbits(t *testing.T) {
	for _, x := range sizes() {
		n := hall.Seats(x)
		for _, open := range openings(n) {
			x.Open = open
			turns := hall.Turns(x)
			for k := range n {
				places := map[int]bool{}
				for _, p := range turns {
					places[p[k]] = true
				}
				if len(hall.Stay(x, []int{k}))*len(places) != len(turns) {
					t.Fatalf("%v: seat %d", x, k)
				}
			}
		}
	}
}

// P1.7: Parse of what Format returns gives the same hall, and Format of what Parse returns the same text.
func TestThereAndBack(t *testing.T) {
	all := sizes()
	r := rand.New(rand.NewSource(1))
	for range 300 {
		var l []api.Table
		for i := range r.Intn(17) {
			x := all[r.Intn(len(all))]
			x.Name, x.X, x.Y = "t"+string(rune('a'+i)), r.Intn(1001), r.Intn(1001)
			for k := range hall.Seats(x) {
				if r.Intn(3) == 0 {
					x.Open = append(x.Open, k)
				}
			}
			l = append(l, x)
		}
		text := hall.Format(l)
		back, line, e := hall.Parse(text)
		if line != 0 || e != api.OK || len(back) != len(l) || len(l) > 0 && !reflect.DeepEqual(back, l) || hall.Format(back) != text {
			t.Fatalf("%q gives %v, %d, %d", text, back, line, e)
		}
	}
}

// P1.7: a text with some bytes changed either is the text of the hall that it gives, or has an error.
func TestChangedTexts(t *testing.T) {
	text := "table sun round 6 0 3 4 0 5\ntable moon long 2 1 0 1000\ntable star row 9 10 0 7 8\n"
	letters := []byte(" \n-0159azAZ\x00\xff")
	r := rand.New(rand.NewSource(2))
	for range 20000 {
		b := []byte(text)
		for range 1 + r.Intn(3) {
			b[r.Intn(len(b))] = letters[r.Intn(len(letters))]
		}
		if r.Intn(4) == 0 {
			b = b[:r.Intn(len(b))]
		}
		l, line, e := hall.Parse(string(b))
		switch {
		case e == api.OK && (line != 0 || hall.Format(l) != string(b)):
			t.Fatalf("%q gives %v at line %d", b, l, line)
		case e != api.OK && len(l) != 0:
			t.Fatalf("%q gives %v beside error %d", b, l, e)
		}
	}
}

// P1 and R4: no call changes an argument, and no two results share memory.
func TestMemory(t *testing.T) {
	l, _ := middle(api.Table{Name: "mid", Shape: api.Row, A: 6, B: 3, Open: []int{0, 5}})
	before := hall.Format(l)
	spoil := func(lists [][]int) {
		for _, list := range lists {
			for i := range list {
				list[i] = -7
			}
			_ = append(list, -8, -8, -8)
			for _, other := range lists {
				if len(other) > 0 && other[0] == -8 {
					t.Fatal("lists of one result share memory")
				}
			}
		}
	}
	for _, calls := range []func() [][]int{
		func() [][]int { return hall.Turns(l[1]) },
		func() [][]int { return hall.Stay(l[1], nil) },
		func() [][]int { return hall.Blocks(l, 1) },
		func() [][]int { return [][]int{hall.Honour(l, 1), hall.Neighbours(l, 4)} },
	} {
		want := calls()
		spoil(calls())
		if !equal(calls(), want) || hall.Format(l) != before {
			t.Error("a result is kept, or an argument changed")
		}
	}
	p, q := []int{1, 2, 0}, []int{0, 1, 2}
	spoil([][]int{hall.Compose(p, q), hall.Compose(q, p), hall.Invert(q), hall.Invert(p)})
	if !slices.Equal(p, []int{1, 2, 0}) || !slices.Equal(q, []int{0, 1, 2}) {
		t.Error("a permutation was changed")
	}
}

// P1: every function answers, whatever its arguments are.
func TestAnyArgument(t *testing.T) {
	numbers := []int{math.MinInt, -1, 0, 1, 3, 7, 24, 1 << 40, math.MaxInt}
	r := rand.New(rand.NewSource(3))
	pick := func() int { return numbers[r.Intn(len(numbers))] }
	list := func() []int {
		var l []int
		for range r.Intn(4) {
			l = append(l, pick())
		}
		return l
	}
	for range 20000 {
		var l []api.Table
		for range r.Intn(19) {
			l = append(l, api.Table{Name: string(rune('a' + r.Intn(26))), Shape: api.Shape(r.Intn(6)), A: pick(), B: pick(), Open: list(), X: pick(), Y: pick()})
		}
		a, b := pick(), pick()
		hall.CheckAll(l)
		hall.Count(l)
		hall.First(l, a)
		hall.Where(l, a)
		hall.Find(l, "a")
		hall.Beside(l, a, b)
		hall.Across(l, a, b)
		hall.Near(l, a, b)
		hall.Distance(l, a, b)
		hall.Neighbours(l, a)
		hall.Open(l, a)
		hall.Blocks(l, a)
		hall.Honour(l, a)
		hall.Level(l, a)
		hall.Format(l)
		hall.Compose(list(), list())
		hall.Invert(list())
		for _, x := range l {
			hall.Check(x)
			hall.Seats(x)
			hall.Turns(x)
			hall.Stay(x, list())
		}
	}
}
