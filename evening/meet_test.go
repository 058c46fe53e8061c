package evening_test

import (
	"math"
	"math/rand"
	"slices"
	"testing"

	"trestle/evening"
)

// P9.1: who meets, and who is beside whom, on evenings with tables of all kinds.
func TestMeetExamples(t *testing.T) {
	for _, x := range []struct {
		n                   int
		text                string
		meet, beside        string
		most, least, strain int
	}{
		{1, "0; 0", "[[0]]", "[[0]]", 0, 0, 0},
		// At a table for two each is beside the other once.
		{2, "1 0", "[[0 1] [1 0]]", "[[0 1] [1 0]]", 1, 1, 1},
		{2, "0 / 1", "[[0 0] [0 0]]", "[[0 0] [0 0]]", 0, 0, 0},
		{2, "0 1; 1 0; 0 / 1", "[[0 2] [2 0]]", "[[0 2] [2 0]]", 2, 2, 4},
		{3, "0 1 2", "[[0 1 1] [1 0 1] [1 1 0]]", "[[0 1 1] [1 0 1] [1 1 0]]", 1, 1, 3},
		{4, "0 2 1 3", "[[0 1 1 1] [1 0 1 1] [1 1 0 1] [1 1 1 0]]", "[[0 0 1 1] [0 0 1 1] [1 1 0 0] [1 1 0 0]]", 1, 1, 6},
		{4, "0 1 / 2 3; 1 0 / 3 / 2; 3 1 2 / 0", "[[0 2 0 0] [2 0 1 1] [0 1 0 2] [0 1 2 0]]", "[[0 2 0 0] [2 0 1 1] [0 1 0 2] [0 1 2 0]]", 2, 0, 10},
	} {
		s := of(t, x.text)
		meet, beside := evening.Meet(x.n, s), evening.Beside(x.n, s)
		if show(meet, beside) != "["+x.meet+" "+x.beside+"]" {
			t.Errorf("%q: %v, %v", x.text, meet, beside)
		}
		most, least, strain := evening.Most(x.n, s), evening.Least(x.n, s), evening.Strain(x.n, s)
		if most != x.most || least != x.least || strain != x.strain {
			t.Errorf("%q: %d, %d, %d", x.text, most, least, strain)
		}
	}
}

// P9.1: all numbers of meetings, against a model that looks for the guests on each evening.
func TestMeet(t *testing.T) {
	r := rand.New(rand.NewSource(2))
	for range 400 {
		n := pick(r, 1+r.Intn(9), 1+r.Intn(9), 1+r.Intn(20))
		s := anyEvenings(r, n, r.Intn(9))
		meet, beside := evening.Meet(n, s), evening.Beside(n, s)
		if len(meet) != n || len(beside) != n {
			t.Fatal(n, s, meet, beside)
		}
		for a := range n {
			if len(meet[a]) != n || len(beside[a]) != n {
				t.Fatal(n, s, meet, beside)
			}
			for b := range n {
				on := meets(s, a, b)
				if meet[a][b] != len(on) || beside[a][b] != besides(s, a, b) {
					t.Fatalf("%v: %d and %d: %d, %d", s, a, b, meet[a][b], beside[a][b])
				}
				if got := evening.Together(n, s, a, b); !slices.Equal(got, on) {
					t.Fatalf("%v: %d and %d: %v, not %v", s, a, b, got, on)
				}
			}
		}
		list := append(numbers(n, s), numbers(n, s)...)
		if n == 1 {
			list = []int{0}
		}
		most, least, all := evening.Most(n, s), evening.Least(n, s), evening.Strain(n, s)
		if most != slices.Max(list) || least != slices.Min(list) || all != strain(n, s) {
			t.Fatalf("%v: %d, %d, %d", s, most, least, all)
		}
	}
}

// P9.1: the greatest schedules, and those without evenings.
func TestMeetLimits(t *testing.T) {
	one := [][][]int{{rand.New(rand.NewSource(3)).Perm(64)}}
	s := slices.Repeat(one, 64)
	if evening.Most(64, s) != 64 || evening.Least(64, s) != 64 || evening.Strain(64, s) != 2016*64*64 || len(evening.Together(64, s, 0, 63)) != 64 {
		t.Error(evening.Most(64, s), evening.Least(64, s), evening.Strain(64, s))
	}
	for _, s := range [][][][]int{nil, {}} {
		if m, b := evening.Meet(3, s), evening.Beside(3, s); show(m, b) != "[[[0 0 0] [0 0 0] [0 0 0]] [[0 0 0] [0 0 0] [0 0 0]]]" {
			t.Error(m, b)
		}
		if evening.Most(3, s) != 0 || evening.Least(3, s) != 0 || evening.Strain(3, s) != 0 || len(evening.Together(3, s, 0, 1)) != 0 || len(evening.Hosts(3, s)) != 0 {
			t.Error("something of no evenings")
		}
	}
}

// P9.1: nobody meets one who is no guest.
func TestTogetherStrangers(t *testing.T) {
	s := of(t, "0 1 2; 0 1 / 2")
	for _, a := range []int{math.MinInt, -1, 3, 64, math.MaxInt} {
		for _, b := range []int{a, -1, 0, 1, 2, 3} {
			if l, m := evening.Together(3, s, a, b), evening.Together(3, s, b, a); len(l) != 0 || len(m) != 0 {
				t.Error(a, b, l, m)
			}
		}
	}
	for a := range 3 {
		if l := evening.Together(3, s, a, a); len(l) != 0 {
			t.Error(a, l)
		}
	}
	if l := evening.Together(3, s, 1, 0); !slices.Equal(l, []int{0, 1}) {
		t.Error(l)
	}
	if l := evening.Together(3, s, 1, 2); !slices.Equal(l, []int{0}) {
		t.Error(l)
	}
}

// P9.1, P9.5, P9.6: of a schedule that is not valid there is nothing to say.
func TestWrongSchedules(t *testing.T) {
	for _, x := range wrongs() {
		if m, b, h := evening.Meet(x.n, x.s), evening.Beside(x.n, x.s), evening.Hosts(x.n, x.s); m != nil || b != nil || h != nil {
			t.Error(x, m, b, h)
		}
		if evening.Most(x.n, x.s) != 0 || evening.Least(x.n, x.s) != 0 || evening.Strain(x.n, x.s) != 0 || evening.Together(x.n, x.s, 0, 1) != nil || evening.Format(x.n, x.s) != "" {
			t.Error(x)
		}
	}
}
