package evening_test

import (
	"math/rand"
	"testing"

	"trestle/api"
	"trestle/evening"
)

// P5: over the evenings of a schedule no two guests meet more often than it says, and designs at which all meet once need no more
// evenings than the bound.
func TestScheduleSays(t *testing.T) {
	r := rand.New(rand.NewSource(14))
	for range 300 {
		n := 2 + r.Intn(12)
		sizes := anySizes(r, n)
		evenings := 1 + r.Intn(8)
		s, _ := evening.Plan(n, sizes, evenings)
		s, _, _ = evening.Polish(n, s, r.Intn(9))
		most, least, bound := evening.Most(n, s), evening.Least(n, s), evening.LeastMost(n, sizes, evenings)
		for a := range n {
			for b := range a {
				if k := len(evening.Together(n, s, a, b)); k > most || k < least {
					t.Fatalf("%v: %d and %d meet %d times, not from %d to %d", s, a, b, k, least, most)
				}
			}
		}
		if most < bound {
			t.Fatalf("%v: %d is below %d", s, most, bound)
		}
	}
	for _, x := range []struct{ n, size int }{{4, 2}, {6, 2}, {64, 2}, {9, 3}, {15, 3}, {16, 4}, {25, 5}, {49, 7}, {64, 8}} {
		var sizes []int
		for range x.n / x.size {
			sizes = append(sizes, x.size)
		}
		evenings := evening.MostEvenings(x.n, sizes, 1)
		s, e := evening.Design(x.n, x.size, evenings)
		if e != api.OK || evening.Most(x.n, s) != 1 || evening.Least(x.n, s) != 1 || evening.Strain(x.n, s) != x.n*(x.n-1)/2 {
			t.Errorf("%v: %v, %d", x, s, e)
		}
		// With one evening more some guests meet twice.
		if evening.LeastMost(x.n, sizes, evenings) != 1 || evening.LeastMost(x.n, sizes, evenings+1) != 2 {
			t.Error(x)
		}
	}
}

// anyWrong returns a schedule in which something may be wrong.
func anyWrong(r *rand.Rand, n int) [][][]int {
	s := anyEvenings(r, n, r.Intn(4))
	for range r.Intn(2) {
		if len(s) > 0 {
			spoilEvening(r, n, s, r.Intn(len(s)))
		}
	}
	return s
}

// P1: every function answers, whatever its arguments are, and changes none of them (R4); with an error it answers nothing else.
func TestAnyArgument(t *testing.T) {
	r := rand.New(rand.NewSource(15))
	number := func() int { return pick(r, strange()...) }
	for range 10000 {
		n := 1 + r.Intn(6)
		a, b := anyWrong(r, n), anyWrong(r, n)
		p, sizes := r.Perm(n), anySizes(r, n)
		text := write(b)
		if r.Intn(4) == 0 {
			p, sizes, text = append(p, number()), append(sizes, number()), text+pick(r, "\n", "0", "/\n", "x\n")
		}
		if r.Intn(4) == 0 {
			n = number()
		}
		before := show(a, b, p, sizes)
		askAll(t, n, a, b, p, sizes, number(), number(), text)
		if show(a, b, p, sizes) != before {
			t.Fatal("an argument is changed")
		}
	}
}

// askAll calls all functions, and fails a test if one answers something beside an error.
func askAll(t *testing.T, n int, a, b [][][]int, p, sizes []int, k, m int, text string) {
	t.Helper()
	silent := func(what string, e api.Errno, answers ...any) {
		t.Helper()
		if e != api.OK && !nothing(answers...) {
			t.Fatalf("%s with error %d: %v", what, e, answers)
		}
	}
	i, e := evening.Check(n, nil, a)
	if j, f := check(n, nil, a); i != j || e != f {
		t.Fatal(n, a, i, e)
	}
	evening.Check(n, sizes, a)
	silent("schedules", e, evening.Meet(n, a), evening.Beside(n, a), evening.Most(n, a), evening.Least(n, a), evening.Strain(n, a), evening.Together(n, a, k, m), evening.Hosts(n, a), evening.Format(n, a))
	if n > 64 || n < 1 || !fits(n, sizes) {
		silent("sizes", api.ErrSize, evening.LeastMost(n, sizes, k), evening.MostEvenings(n, sizes, k))
	}
	for _, what := range []struct {
		name string
		make func() ([][][]int, api.Errno)
	}{
		{"Pairs", func() ([][][]int, api.Errno) { return evening.Pairs(k) }},
		{"Rings", func() ([][][]int, api.Errno) { return evening.Rings(k) }},
		{"Net", func() ([][][]int, api.Errno) { return evening.Net(k, m) }},
		{"Plane", func() ([][][]int, api.Errno) { return evening.Plane(k) }},
		{"Design", func() ([][][]int, api.Errno) { return evening.Design(n, k, m) }},
		{"Plan", func() ([][][]int, api.Errno) { return evening.Plan(n, sizes, k) }},
		{"Relabel", func() ([][][]int, api.Errno) { return evening.Relabel(n, a, p) }},
		{"Join", func() ([][][]int, api.Errno) { return evening.Join(n, a, b) }},
	} {
		s, e := what.make()
		silent(what.name, e, s)
	}
	s, made, e := evening.Polish(n, a, k)
	silent("Polish", e, s, made)
	s, line, e := evening.Parse(n, text)
	silent("Parse", e, s)
	if e == api.OK && line != 0 {
		t.Fatal(text, line)
	}
	sum, ok := evening.Add(n, k, m)
	product, is := evening.Mul(n, k, m)
	if !ok && sum != 0 || !is && product != 0 || ok != is {
		t.Fatal(n, k, m, sum, product)
	}
}

// spoil changes all numbers of lists, and what may lie behind their ends.
func spoil(lists ...[]int) {
	for _, l := range lists {
		_ = append(l, -7)
		for k := range l {
			l[k] = -7
		}
	}
}

// R4: a result shares no memory with an argument, and its lists share none with each other.
func TestNewMemory(t *testing.T) {
	s := of(t, "0 1 / 2 3; 0 1 / 2 3; 3 / 2 1 0")
	p, sizes, before := []int{2, 3, 0, 1}, []int{3, 1}, show(s)
	lists := map[string]func() [][][]int{
		"Meet":           func() [][][]int { return [][][]int{evening.Meet(4, s), evening.Beside(4, s), evening.Hosts(4, s)} },
		"Together":       func() [][][]int { return [][][]int{{evening.Together(4, s, 0, 1)}} },
		"Pairs":          func() [][][]int { out, _ := evening.Pairs(6); return out },
		"Rings":          func() [][][]int { out, _ := evening.Rings(7); return out },
		"Net":            func() [][][]int { out, _ := evening.Net(3, 4); return out },
		"Plane":          func() [][][]int { out, _ := evening.Plane(3); return out },
		"Kirkman":        evening.Kirkman,
		"Design of one":  func() [][][]int { out, _ := evening.Design(5, 5, 1); return out },
		"Design alone":   func() [][][]int { out, _ := evening.Design(5, 1, 64); return out },
		"Design of some": func() [][][]int { out, _ := evening.Design(9, 3, 2); return out },
		"Plan":           func() [][][]int { out, _ := evening.Plan(4, sizes, 3); return out },
		"Polish":         func() [][][]int { out, _, _ := evening.Polish(4, s, 9); return out },
		"Polish nothing": func() [][][]int { out, _, _ := evening.Polish(4, s, 0); return out },
		"Relabel":        func() [][][]int { out, _ := evening.Relabel(4, s, p); return out },
		"Relabel alike":  func() [][][]int { out, _ := evening.Relabel(4, s, []int{0, 1, 2, 3}); return out },
		"Join":           func() [][][]int { out, _ := evening.Join(4, s, s); return out },
		"Join nothing":   func() [][][]int { out, _ := evening.Join(4, s, nil); return out },
		"Join to none":   func() [][][]int { out, _ := evening.Join(4, nil, s); return out },
		"Parse":          func() [][][]int { out, _, _ := evening.Parse(4, evening.Format(4, s)); return out },
	}
	for what, call := range lists {
		want := show(call())
		out := call()
		for i, tables := range out {
			// What is behind the end of one list is not the beginning of another one.
			_ = append(tables, nil)
			for k, table := range tables {
				spoil(table)
				for m, other := range tables {
					if m > k && len(other) > 0 && other[0] == -7 {
						t.Errorf("%s: tables %d and %d of evening %d share memory", what, k, m, i)
					}
				}
			}
			if i+1 < len(out) && len(out[i+1]) > 0 && len(out[i+1][0]) > 0 && out[i+1][0][0] == -7 {
				t.Errorf("%s: evenings share memory", what)
			}
		}
		if show(call()) != want || show(s) != before || show(p, sizes) != "[[2 3 0 1] [3 1]]" {
			t.Fatalf("%s: an argument is changed, or a result is kept", what)
		}
	}
}

// R3: a nil list and an empty one are the same.
func TestNilAndEmpty(t *testing.T) {
	for _, s := range [][][][]int{nil, {}} {
		for _, sizes := range [][]int{nil, {}} {
			if i, e := evening.Check(3, sizes, s); i != 0 || e != api.OK {
				t.Error(i, e)
			}
			if _, e := evening.Plan(3, sizes, 1); e != api.ErrSize {
				t.Error(e)
			}
			if evening.LeastMost(3, sizes, 1) != 0 || evening.MostEvenings(3, sizes, 1) != 0 {
				t.Error("no sizes fit")
			}
		}
		out, made, e := evening.Polish(3, s, 5)
		if len(out) != 0 || made != 0 || e != api.OK {
			t.Error(out, made, e)
		}
		if out, e := evening.Join(3, s, s); len(out) != 0 || e != api.OK {
			t.Error(out, e)
		}
		if out, e := evening.Relabel(3, s, []int{2, 1, 0}); len(out) != 0 || e != api.OK {
			t.Error(out, e)
		}
		if evening.Format(3, s) != "" {
			t.Error("a text of nothing")
		}
	}
	for _, s := range [][][][]int{{nil}, {{}}, {{nil}}, {{{}}}} {
		if i, e := evening.Check(1, nil, s); i != 0 || e != api.ErrArg {
			t.Error(s, i, e)
		}
	}
}
