package guest_test

import (
	"math/rand"
	"slices"
	"testing"

	"trestle/api"
	"trestle/guest"
)

// tie ties a pair that has to be free.
func tie(t *testing.T, b *guest.Book, one, other string, kind api.TieKind) {
	t.Helper()
	if e := b.Tie(one, other, kind); e != api.OK {
		t.Fatalf("Tie(%s, %s): %d", one, other, e)
	}
}

// P2.4: ties of pairs, and whom they join.
func TestTiedAndWith(t *testing.T) {
	b := example(t)
	for _, x := range []struct {
		one, other string
		kind       api.TieKind
	}{
		{"anna", "boris", api.Feud}, {"anna", "carl", api.Friend}, {"boris", "carl", api.Feud},
		{"anna", "dora", 0}, {"anna", "anna", 0}, {"anna", "eve", 0}, {"eve", "fred", 0}, {"", "", 0}, {"", "anna", 0},
	} {
		kind, ok := b.Tied(x.one, x.other)
		turned, also := b.Tied(x.other, x.one)
		if kind != x.kind || ok != (x.kind != 0) || turned != kind || also != ok {
			t.Errorf("Tied(%s, %s): %d, %t; %d, %t", x.one, x.other, kind, ok, turned, also)
		}
	}
	for _, x := range []struct {
		name string
		kind api.TieKind
		want []string
	}{
		{"anna", api.Friend, []string{"carl"}}, {"anna", api.Feud, []string{"boris"}}, {"boris", api.Feud, []string{"anna", "carl"}}, {"boris", api.Friend, nil},
		{"carl", api.Feud, []string{"boris"}}, {"carl", api.Friend, []string{"anna"}}, {"dora", api.Feud, nil}, {"eve", api.Feud, nil}, {"", api.Friend, nil},
		{"anna", 0, nil}, {"anna", 3, nil}, {"boris", 255, nil},
	} {
		if got := b.With(x.name, x.kind); !slices.Equal(got, x.want) {
			t.Errorf("With(%s, %d) is %v", x.name, x.kind, got)
		}
	}
}

// P2.4: tongues that two guests have in common.
func TestCommon(t *testing.T) {
	b := example(t)
	b.Add(api.Guest{Name: "eve", Tongues: []string{"danish", "french", "greek", "latin"}})
	for _, x := range []struct {
		one, other string
		want       []string
	}{
		{"anna", "boris", []string{"french"}}, {"anna", "carl", []string{"latin"}}, {"boris", "carl", nil}, {"anna", "dora", nil}, {"dora", "dora", nil},
		{"anna", "anna", []string{"french", "latin"}}, {"anna", "eve", []string{"french", "latin"}}, {"carl", "eve", []string{"danish", "latin"}},
		{"eve", "eve", []string{"danish", "french", "greek", "latin"}}, {"anna", "fred", nil}, {"fred", "fred", nil}, {"", "anna", nil},
	} {
		if got, turned := b.Common(x.one, x.other), b.Common(x.other, x.one); !slices.Equal(got, x.want) || !slices.Equal(turned, x.want) {
			t.Errorf("Common(%s, %s) is %v, %v", x.one, x.other, got, turned)
		}
	}
}

// P2.4: how many guests have each diet.
func TestDiets(t *testing.T) {
	b := guest.New()
	for i, diet := range []string{"vegan", "fish", "vegan", "veg", "fish", "vegan"} {
		b.Add(api.Guest{Name: names(6)[i], Diet: diet})
	}
	if got := b.Diets(); !slices.Equal(got, []guest.Count{{Diet: "fish", N: 2}, {Diet: "veg", N: 1}, {Diet: "vegan", N: 3}}) {
		t.Error(got)
	}
	b.Add(api.Guest{Name: "x"})
	b.Remove("aaaa")
	if got := b.Diets(); !slices.Equal(got, []guest.Count{{Diet: "", N: 1}, {Diet: "fish", N: 2}, {Diet: "vegan", N: 3}}) {
		t.Error(got)
	}
	if got := example(t).Diets(); !slices.Equal(got, []guest.Count{{N: 4}}) {
		t.Error(got)
	}
}

// P2.5: chains of interpreters.
func TestChain(t *testing.T) {
	b := example(t)
	for _, x := range []struct {
		one, other string
		want       []string
	}{
		{"boris", "carl", []string{"boris", "anna", "carl"}}, {"carl", "boris", []string{"carl", "anna", "boris"}}, {"anna", "carl", []string{"anna", "carl"}},
		{"boris", "dora", nil}, {"dora", "anna", nil}, {"dora", "dora", []string{"dora"}}, {"anna", "anna", []string{"anna"}},
		{"anna", "eve", nil}, {"eve", "anna", nil}, {"eve", "eve", nil}, {"", "", nil},
	} {
		if got, ok := b.Chain(x.one, x.other); !slices.Equal(got, x.want) || ok != (x.want != nil) {
			t.Errorf("Chain(%s, %s) is %v, %t", x.one, x.other, got, ok)
		}
	}
}

// P2.5: of several shortest chains the first one by names, not by the book's order.
func TestFirstChain(t *testing.T) {
	b := guest.New()
	for _, g := range []api.Guest{
		{Name: "zoe", Tongues: []string{"p", "q"}}, {Name: "end", Tongues: []string{"t", "u"}}, {Name: "start", Tongues: []string{"p", "r"}},
		{Name: "x", Tongues: []string{"r", "s"}}, {Name: "n", Tongues: []string{"q", "t"}}, {Name: "y", Tongues: []string{"s", "u"}}, {Name: "b", Tongues: []string{"q", "u"}},
	} {
		b.Add(g)
	}
	for _, x := range []struct{ one, other, want string }{
		// Over x and y, or over zoe and b, or over zoe and n: x is less than zoe, though b is the least one.
		{"start", "end", "start x y end"},
		// Backwards b is the least one.
		{"end", "start", "end b zoe start"},
		// The first one at each step counts, not the last one.
		{"n", "x", "n b y x"},
	} {
		got, ok := b.Chain(x.one, x.other)
		if s := join(got); !ok || s != x.want {
			t.Errorf("Chain(%s, %s) is %s, not %s", x.one, x.other, s, x.want)
		}
	}
}

// join writes a list of names as one text.
func join(list []string) string {
	s := ""
	for i, name := range list {
		if i > 0 {
			s += " "
		}
		s += name
	}
	return s
}

// P2.5: a chain of all guests that a book can have.
func TestLongChain(t *testing.T) {
	b, all := guest.New(), names(64)
	r := rand.New(rand.NewSource(3))
	for _, i := range r.Perm(64) {
		tongues := []string{all[i]}
		if i > 0 {
			tongues = []string{all[i-1], all[i]}
		}
		if e := b.Add(api.Guest{Name: all[i], Tongues: tongues}); e != api.OK {
			t.Fatal(e)
		}
	}
	if got, ok := b.Chain(all[0], all[63]); !ok || !slices.Equal(got, all) {
		t.Error(got)
	}
	b.Remove(all[30])
	if got, ok := b.Chain(all[0], all[63]); ok || len(got) != 0 {
		t.Error(got)
	}
}

// P2.6: circles of friends.
func TestCircles(t *testing.T) {
	b := example(t)
	if got := b.Circles(); !slices.EqualFunc(got, [][]string{{"anna", "carl"}, {"boris"}, {"dora"}}, slices.Equal[[]string]) {
		t.Error(got)
	}
	b.Add(api.Guest{Name: "abe"})
	b.Add(api.Guest{Name: "ab"})
	tie(t, b, "dora", "abe", api.Friend)
	tie(t, b, "abe", "carl", api.Friend)
	if got := b.Circles(); !slices.EqualFunc(got, [][]string{{"ab"}, {"abe", "anna", "carl", "dora"}, {"boris"}}, slices.Equal[[]string]) {
		t.Error(got)
	}
	b.Untie("carl", "abe")
	if got := b.Circles(); !slices.EqualFunc(got, [][]string{{"ab"}, {"abe", "dora"}, {"anna", "carl"}, {"boris"}}, slices.Equal[[]string]) {
		t.Error(got)
	}
}

// P2.7: camps, and a ring of feuds.
func TestCamps(t *testing.T) {
	b := example(t)
	if camps, ring := b.Camps(); !slices.Equal(camps, []int{0, 1, 0, 0}) || len(ring) != 0 {
		t.Error(camps, ring)
	}
	// Names do not matter: zoe is the first one.
	b.Rename("anna", "zoe")
	if camps, ring := b.Camps(); !slices.Equal(camps, []int{0, 1, 0, 0}) || len(ring) != 0 {
		t.Error(camps, ring)
	}
	b.Rename("zoe", "anna")
	b.Untie("anna", "carl")
	tie(t, b, "anna", "carl", api.Feud)
	camps, ring := b.Camps()
	checkRing(t, b, ring)
	if len(camps) != 0 || len(ring) != 3 {
		t.Error(camps, ring)
	}
}

// P2.7: rings of feuds of each size, in which the guests stand in any order, with others beside them.
func TestRings(t *testing.T) {
	r := rand.New(rand.NewSource(4))
	all := names(64)
	for n := 3; n <= 62; n++ {
		b, order := guest.New(), r.Perm(64)
		for _, i := range r.Perm(64) {
			b.Add(api.Guest{Name: all[i]})
		}
		for i := range n {
			tie(t, b, all[order[i]], all[order[(i+1)%n]], api.Feud)
		}
		tie(t, b, all[order[n]], all[order[n+1]], api.Feud)
		tie(t, b, all[order[n]], all[order[0]], api.Feud)
		camps, ring := b.Camps()
		if n%2 == 1 {
			if checkRing(t, b, ring); len(ring) != n || len(camps) != 0 {
				t.Error(n, camps, ring)
			}
			continue
		}
		if len(camps) != 64 || len(ring) != 0 || camps[0] != 0 {
			t.Fatal(n, camps, ring)
		}
		place := map[string]int{}
		for i, g := range b.Roll().Guests {
			place[g.Name] = i
		}
		for _, x := range b.Roll().Ties {
			if camps[place[x.A]]+camps[place[x.B]] != 1 {
				t.Error(n, x, camps)
			}
		}
	}
}

// P2.4 to P2.7: what is asked of any small books has the answers that a model of a book gives.
func TestAnyBooks(t *testing.T) {
	r := rand.New(rand.NewSource(5))
	for range 1500 {
		roll := anyRoll(r, r.Intn(8), 2+r.Intn(5))
		b, m := load(t, roll), modelOf(roll)
		if got, want := b.Circles(), m.circles(); !slices.EqualFunc(got, want, slices.Equal[[]string]) {
			t.Fatalf("%v: circles %v, not %v", roll, got, want)
		}
		if got, want := b.Diets(), m.diets(); !slices.Equal(got, want) {
			t.Fatalf("%v: diets %v, not %v", roll, got, want)
		}
		camps, ring := b.Camps()
		want, apart := m.camps()
		if !slices.Equal(camps, want) || apart && len(ring) != 0 {
			t.Fatalf("%v: camps %v, %v, not %v", roll, camps, ring, want)
		}
		if !apart {
			checkRing(t, b, ring)
		}
		for _, one := range append(names(8), "q", "") {
			for kind := range api.TieKind(4) {
				if got, want := b.With(one, kind), m.with(one, kind); !slices.Equal(got, want) {
					t.Fatalf("%v: With(%s, %d) is %v, not %v", roll, one, kind, got, want)
				}
			}
			for _, other := range append(names(8), "q") {
				kind, tied := b.Tied(one, other)
				if want := m.kinds[pairOf(one, other)]; kind != want || tied != (want != 0) {
					t.Fatalf("%v: Tied(%s, %s) is %d, %t, not %d", roll, one, other, kind, tied, want)
				}
				if got, want := b.Common(one, other), m.common(one, other); !slices.Equal(got, want) {
					t.Fatalf("%v: Common(%s, %s) is %v, not %v", roll, one, other, got, want)
				}
				chain, ok := b.Chain(one, other)
				if want := m.chain(one, other); !slices.Equal(chain, want) || ok != (want != nil) {
					t.Fatalf("%v: Chain(%s, %s) is %v, %t, not %v", roll, one, other, chain, ok, want)
				}
			}
		}
		if !sameRoll(b.Roll(), roll) {
			t.Fatalf("%v: a question has changed the book", roll)
		}
	}
}
