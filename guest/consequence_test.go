package guest_test

import (
	"math"
	"math/rand"
	"slices"
	"strconv"
	"testing"

	"trestle/api"
	"trestle/guest"
)

// P2.9: Parse of what Format returns is the same roll.
func TestThereAndBack(t *testing.T) {
	r := rand.New(rand.NewSource(7))
	for range 300 {
		roll := anyRoll(r, r.Intn(65), 2+r.Intn(12))
		text := guest.Format(roll)
		back, line, e := guest.Parse(text)
		if line != 0 || e != api.OK || !sameRoll(back, roll) || guest.Format(back) != text {
			t.Fatalf("%q gives %v, %d, %d", text, back, line, e)
		}
	}
}

// P2.9: what was added and taken out again leaves no trace.
func TestNoTrace(t *testing.T) {
	r := rand.New(rand.NewSource(8))
	for range 300 {
		roll := anyRoll(r, 1+r.Intn(60), 3+r.Intn(12))
		b := load(t, roll)
		before := answers(b)
		for _, name := range []string{"zed", "abc"} {
			if e := b.Add(anyGuest(r, name)); e != api.OK {
				t.Fatal(e)
			}
		}
		added := 0
		for _, g := range roll.Guests {
			if r.Intn(4) == 0 && b.Tie(pick(r, "zed", "abc"), g.Name, pick(r, api.Friend, api.Feud)) == api.OK {
				added++
			}
		}
		one, e := b.Remove("zed")
		other, f := b.Remove("abc")
		if e != api.OK || f != api.OK || one+other != added || !sameRoll(b.Roll(), roll) || !slices.Equal(answers(b), before) {
			t.Fatalf("%v is %v; %d and %d ties of %d", roll, b.Roll(), one, other, added)
		}
		for i, g := range roll.Guests {
			for _, h := range roll.Guests[:i] {
				if b.Tie(g.Name, h.Name, api.Feud) == api.OK && b.Untie(h.Name, g.Name) != api.OK {
					t.Fatal("a tie that is not there")
				}
			}
		}
		if !sameRoll(b.Roll(), roll) || !slices.Equal(answers(b), before) {
			t.Fatalf("%v is %v", roll, b.Roll())
		}
	}
}

// answers returns what a book answers, as one list.
func answers(b *guest.Book) []string {
	var list []string
	for _, circle := range b.Circles() {
		list = append(append(list, circle...), "/")
	}
	guests := b.Roll().Guests
	for _, g := range guests {
		list = append(append(list, b.With(g.Name, api.Friend)...), "/")
		list = append(append(list, b.With(g.Name, api.Feud)...), "/")
		chain, _ := b.Chain(guests[0].Name, g.Name)
		list = append(append(list, chain...), "/")
	}
	// Which ring there is instead of camps is not specified.
	camps, _ := b.Camps()
	for _, camp := range camps {
		list = append(list, strconv.Itoa(camp))
	}
	return list
}

// P2.9: renaming a guest changes no tie's kind and no chain's length.
func TestRenamed(t *testing.T) {
	r := rand.New(rand.NewSource(9))
	for range 200 {
		roll := anyRoll(r, 2+r.Intn(20), 2+r.Intn(6))
		b, c := load(t, roll), load(t, roll)
		// As many times as there are guests, so that some are renamed several times.
		now := map[string]string{}
		for _, g := range roll.Guests {
			now[g.Name] = g.Name
		}
		for range roll.Guests {
			old := pick(r, roll.Guests...).Name
			to := pick(r, names(64)...)
			if c.Rename(now[old], to) == api.OK {
				now[old] = to
			}
		}
		for i, g := range roll.Guests {
			if moved, ok := c.Find(now[g.Name]); !ok || c.Roll().Guests[i].Name != now[g.Name] || moved.Rank != g.Rank || !slices.Equal(moved.Tongues, g.Tongues) {
				t.Fatalf("%s became %v", g.Name, moved)
			}
			for _, h := range roll.Guests {
				kind, tied := b.Tied(g.Name, h.Name)
				chain, ok := b.Chain(g.Name, h.Name)
				newKind, newTied := c.Tied(now[g.Name], now[h.Name])
				newChain, newOk := c.Chain(now[g.Name], now[h.Name])
				if kind != newKind || tied != newTied || len(chain) != len(newChain) || ok != newOk {
					t.Fatalf("%s and %s: %d and %v; %d and %v", g.Name, h.Name, kind, chain, newKind, newChain)
				}
			}
		}
		camps, _ := b.Camps()
		newCamps, ring := c.Camps()
		if !slices.Equal(camps, newCamps) {
			t.Fatalf("camps %v and %v", camps, newCamps)
		}
		if len(ring) > 0 {
			checkRing(t, c, ring)
		}
	}
}

// P2.9: friends are in one circle; between two circles there is no tie of kind Friend. Each guest is in one circle.
func TestFriendsInCircles(t *testing.T) {
	r := rand.New(rand.NewSource(10))
	for range 300 {
		roll := anyRoll(r, r.Intn(65), 2+r.Intn(60))
		b := load(t, roll)
		in := map[string]int{}
		for i, circle := range b.Circles() {
			for _, name := range circle {
				if _, twice := in[name]; twice {
					t.Fatalf("%v: %s is in two circles", roll, name)
				}
				in[name] = i
			}
		}
		if len(in) != len(roll.Guests) {
			t.Fatalf("%v: %d guests in circles", roll, len(in))
		}
		for _, x := range roll.Ties {
			if x.Kind == api.Friend && in[x.A] != in[x.B] {
				t.Fatalf("%v: %v", roll, x)
			}
		}
	}
}

// P1: every function answers, whatever its arguments are.
func TestAnyArgument(t *testing.T) {
	r := rand.New(rand.NewSource(11))
	name := func() string { return pick(r, "", "-", "a", "b", "c", "A", "abcdefghijklm", "\xff", "a b", "a\n") }
	number := func() int { return pick(r, math.MinInt, -1, 0, 1, 2, 3, 9999, 10000, math.MaxInt) }
	whoever := func() api.Guest {
		g := api.Guest{Name: name(), Since: number(), Side: number(), Host: true}
		if r.Intn(2) == 0 {
			g = api.Guest{Name: name()}
		}
		for range r.Intn(3) {
			g.Tongues = append(g.Tongues, name())
		}
		return g
	}
	for range 5000 {
		var roll api.Roll
		for range r.Intn(5) {
			roll.Guests = append(roll.Guests, whoever())
		}
		for range r.Intn(5) {
			roll.Ties = append(roll.Ties, api.Tie{A: name(), B: name(), Kind: api.TieKind(r.Intn(256))})
		}
		guest.CheckRoll(roll)
		guest.Format(roll)
		guest.Parse(name())
		loaded, _, _ := guest.Load(roll)
		fresh := guest.New()
		fresh.Add(api.Guest{Name: "a"})
		fresh.Add(api.Guest{Name: "b", Tongues: []string{"b"}})
		for _, b := range []*guest.Book{loaded, fresh} {
			b.Add(whoever())
			b.Tie(name(), name(), api.TieKind(r.Intn(4)))
			b.Rename(name(), name())
			b.Untie(name(), name())
			b.Tied(name(), name())
			b.With(name(), api.TieKind(r.Intn(256)))
			b.Common(name(), name())
			b.Chain(name(), name())
			b.Circles()
			b.Camps()
			b.Diets()
			b.Find(name())
			b.Remove(name())
			if guest.CheckRoll(b.Roll()); b.Len() != len(b.Roll().Guests) {
				t.Fatal(b.Len(), b.Roll())
			}
			if i, e := guest.CheckRoll(b.Roll()); i != 0 || e != api.OK {
				t.Fatal("a book keeps what is not valid", b.Roll(), i, e)
			}
		}
	}
}
