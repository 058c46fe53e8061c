package service_test

import (
	"math/rand"
	"slices"
	"strconv"
	"strings"
	"testing"

	"trestle/api"
	"trestle/hall"
	"trestle/service"
)

// P11.1: the chapter's examples.
func TestCardsOfExample(t *testing.T) {
	p, part := dinner()
	for g, want := range []string{"guest ann\nrank duke\ntable sun 1\ndiet fish\nbeside bob\n", "guest bob\ntable sun 2\nbeside ann\n", "guest cid\ntable bar 0\ndiet fish\n", "guest dan\ntable end 0\n", ""} {
		if got := service.Card(p, part, g); got != want {
			t.Errorf("Card(%d): %q", g, got)
		}
	}
	if got := service.Names(p, part); got != "ann sun 1\nbob sun 2\ncid bar 0\ndan end 0\neva -\n" {
		t.Errorf("Names: %q", got)
	}
	if got := service.Chart(p, part, 1); got != "table bar\n0 cid\n1 -\n" {
		t.Errorf("Chart: %q", got)
	}
}

// P11.1: who is beside: by seats and not by names or guests, not who is across, and nobody behind an aisle or at another table.
func TestBeside(t *testing.T) {
	p := api.Problem{
		Tables: []api.Table{{Name: "sun", Shape: api.Round, A: 4}, {Name: "duo", Shape: api.Round, A: 2}, {Name: "row", Shape: api.Row, A: 4, B: 2}, {Name: "solo", Shape: api.Round, A: 1}, {Name: "pair", Shape: api.Long, A: 1}},
		Guests: []api.Guest{{Name: "d"}, {Name: "c"}, {Name: "b"}, {Name: "a"}},
	}
	for _, x := range []struct {
		part []int
		g    int
		want string
	}{
		{[]int{0, 1, 2, 3}, 0, "guest d\ntable sun 0\nbeside c a\n"},
		{[]int{1, 0, 3, 2}, 0, "guest d\ntable sun 1\nbeside c a\n"},
		{[]int{3, 2, 1, 0}, 0, "guest d\ntable sun 3\nbeside a c\n"},
		{[]int{2, 0, 3, 1}, 0, "guest d\ntable sun 2\nbeside a b\n"},
		{[]int{0, 2, -1, -1}, 0, "guest d\ntable sun 0\n"},
		{[]int{4, 5, 6, 7}, 0, "guest d\ntable duo 0\nbeside c\n"},
		{[]int{4, 5, 6, 7}, 1, "guest c\ntable duo 1\nbeside d\n"},
		{[]int{3, 4, -1, -1}, 1, "guest c\ntable duo 0\n"},
		{[]int{6, 7, 8, 9}, 1, "guest c\ntable row 1\nbeside d\n"},
		{[]int{6, 7, 8, 9}, 2, "guest b\ntable row 2\nbeside a\n"},
		{[]int{10, 9, 11, 5}, 0, "guest d\ntable solo 0\n"},
		{[]int{11, 12, -1, -1}, 1, "guest c\ntable pair 1\n"},
	} {
		if got := service.Card(p, x.part, x.g); got != x.want {
			t.Errorf("Card(%v, %d): %q", x.part, x.g, got)
		}
	}
}

// P11.1: the lines of a card that may be missing, each alone.
func TestCardLines(t *testing.T) {
	p := api.Problem{Tables: []api.Table{{Name: "long", Shape: api.Row, A: 24}}, Guests: []api.Guest{{Name: "ann"}}}
	for _, x := range []struct{ rank, diet, want string }{
		{"", "", "guest ann\ntable long 23\n"},
		{"duke", "", "guest ann\nrank duke\ntable long 23\n"},
		{"", "egg", "guest ann\ntable long 23\ndiet egg\n"},
		{"guest", "rank", "guest ann\nrank guest\ntable long 23\ndiet rank\n"},
	} {
		p.Guests[0].Rank, p.Guests[0].Diet = x.rank, x.diet
		p.Guests[0].Court, p.Guests[0].Tongues, p.Guests[0].Host = "spain", []string{"latin"}, true
		if got := service.Card(p, []int{23}, 0); got != x.want {
			t.Errorf("%q, %q: %q", x.rank, x.diet, got)
		}
		if got := service.Cards(p, []int{23}); got != x.want+"-\n" {
			t.Errorf("Cards: %q", got)
		}
	}
}

// P11.1: cards and charts of many halls, as the chapter says.
func TestCardsOfMany(t *testing.T) {
	r := rand.New(rand.NewSource(1))
	for range 1500 {
		p, part := anyFeast(r, r.Intn(6))
		var cards, chart string
		for g := range p.Guests {
			if got, want := service.Card(p, part, g), cardModel(p, part, g); got != want {
				t.Fatalf("Card(%v, %v, %d): %q, not %q", p, part, g, got, want)
			}
		}
		for i, table := range p.Tables {
			chart = "table " + table.Name + "\n"
			for k := range hall.Seats(table) {
				name := "-"
				if g := slices.Index(part, hall.First(p.Tables, i)+k); g >= 0 {
					name = p.Guests[g].Name
					cards += cardModel(p, part, g) + "-\n"
				}
				chart += strconv.Itoa(k) + " " + name + "\n"
			}
			if got := service.Chart(p, part, i); got != chart {
				t.Fatalf("Chart(%v, %v, %d): %q, not %q", p, part, i, got, chart)
			}
		}
		if got := service.Cards(p, part); got != cards {
			t.Fatalf("Cards(%v, %v): %q, not %q", p, part, got, cards)
		}
	}
}

// P11.1: the list of names has each guest once, in the order of names, with the seat.
func TestNamesOfMany(t *testing.T) {
	r := rand.New(rand.NewSource(2))
	for range 1500 {
		p, part := anyFeast(r, r.Intn(6))
		sorted := slices.Clone(p.Guests)
		slices.SortFunc(sorted, func(g, h api.Guest) int { return strings.Compare(g.Name, h.Name) })
		want := ""
		for _, guest := range sorted {
			seat := part[slices.IndexFunc(p.Guests, func(g api.Guest) bool { return g.Name == guest.Name })]
			if t, k, ok := hall.Where(p.Tables, seat); ok {
				want += guest.Name + " " + p.Tables[t].Name + " " + strconv.Itoa(k) + "\n"
			} else {
				want += guest.Name + " -\n"
			}
		}
		if got := service.Names(p, part); got != want {
			t.Fatalf("Names(%v, %v): %q, not %q", p, part, got, want)
		}
	}
}

// P11.1: a name that begins with another one comes behind it, whatever follows.
func TestNamesInOrder(t *testing.T) {
	p := api.Problem{Tables: []api.Table{{Name: "z", Shape: api.Round, A: 3}, {Name: "a", Shape: api.Round, A: 3}}}
	for _, name := range []string{"ab", "b", "aaaaaaaaaaaa", "a", "aa"} {
		p.Guests = append(p.Guests, api.Guest{Name: name})
	}
	if got := service.Names(p, []int{0, 3, -1, 1, 4}); got != "a z 1\naa a 1\naaaaaaaaaaaa -\nab z 0\nb a 0\n" {
		t.Errorf("Names: %q", got)
	}
}

// P11.1: no card for a number that is no guest, no chart of no table, no lists without guests or tables.
func TestNoCards(t *testing.T) {
	p, part := dinner()
	for _, n := range strange() {
		if (n < 0 || n > 3) && service.Card(p, part, n) != "" {
			t.Errorf("Card(%d): %q", n, service.Card(p, part, n))
		}
		if (n < 0 || n > 2) && service.Chart(p, part, n) != "" {
			t.Errorf("Chart(%d): %q", n, service.Chart(p, part, n))
		}
	}
	if got := service.Cards(p, slices.Repeat([]int{-1}, 5)); got != "" {
		t.Errorf("Cards of nobody: %q", got)
	}
	var none api.Problem
	if service.Card(none, nil, 0) != "" || service.Cards(none, nil) != "" || service.Names(none, nil) != "" || service.Chart(none, nil, 0) != "" {
		t.Error("something of nothing")
	}
	p.Guests, p.Class = nil, nil
	if service.Names(p, nil) != "" || service.Cards(p, []int{}) != "" || service.Chart(p, nil, 1) != "table bar\n0 -\n1 -\n" {
		t.Errorf("without guests: %q", service.Chart(p, nil, 1))
	}
}

// P11.1: nothing of problems and partial plans that are not valid.
func TestCardsOfFails(t *testing.T) {
	for _, x := range allFails(t) {
		for n := -1; n < 5; n++ {
			if service.Card(x.p, x.part, n) != "" || service.Chart(x.p, x.part, n) != "" {
				t.Errorf("%v, %v: %q, %q", x.p, x.part, service.Card(x.p, x.part, n), service.Chart(x.p, x.part, n))
			}
		}
		if service.Cards(x.p, x.part) != "" || service.Names(x.p, x.part) != "" {
			t.Errorf("%v, %v: %q, %q", x.p, x.part, service.Cards(x.p, x.part), service.Names(x.p, x.part))
		}
	}
}
