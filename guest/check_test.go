package guest_test

import (
	"math"
	"slices"
	"strings"
	"testing"

	"trestle/api"
	"trestle/guest"
)

// wrongNames are texts that are no names.
var wrongNames = []string{"-", "abcdefghijklm", "Ann", "anN", "ann1", "an n", "ann\n", "an`", "an{", "äan", "\xff", "\x00", strings.Repeat("a", 100000)}

// P2.1: Check finds its errors, and of several the one that is named first.
func TestCheck(t *testing.T) {
	ok := api.Guest{Name: "anna", Rank: "duchess", Court: "france", Since: 1998, Side: 1, Diet: "vegan", Tongues: []string{"french", "latin"}}
	for _, x := range []struct {
		what   string
		e      api.Errno
		change func(g *api.Guest)
	}{
		{"nothing", api.OK, func(g *api.Guest) {}},
		{"only a name", api.OK, func(g *api.Guest) { *g = api.Guest{Name: "a"} }},
		{"nobody", api.ErrName, func(g *api.Guest) { *g = api.Guest{} }},
		{"12 letters", api.OK, func(g *api.Guest) {
			g.Name, g.Rank, g.Court, g.Diet = "abcdefghxyza", "abcdefghxyza", "abcdefghxyza", "abcdefghxyza"
		}},
		{"host", api.OK, func(g *api.Guest) { g.Host = true }},
		{"access", api.OK, func(g *api.Guest) { g.Host, g.Access = true, true }},
		{"no name", api.ErrName, func(g *api.Guest) { g.Name = "" }},
		{"no rank, court or diet", api.OK, func(g *api.Guest) { g.Rank, g.Court, g.Diet = "", "", "" }},
		{"first year", api.OK, func(g *api.Guest) { g.Since = 0 }},
		{"last year", api.OK, func(g *api.Guest) { g.Since = 9999 }},
		{"year below", api.ErrSince, func(g *api.Guest) { g.Since = -1 }},
		{"year above", api.ErrSince, func(g *api.Guest) { g.Since = 10000 }},
		{"least year", api.ErrSince, func(g *api.Guest) { g.Since = math.MinInt }},
		{"no side", api.OK, func(g *api.Guest) { g.Side = 0 }},
		{"other side", api.OK, func(g *api.Guest) { g.Side = 2 }},
		{"side below", api.ErrSide, func(g *api.Guest) { g.Side = -1 }},
		{"side above", api.ErrSide, func(g *api.Guest) { g.Side = 3 }},
		{"greatest side", api.ErrSide, func(g *api.Guest) { g.Side = math.MaxInt }},
		{"no tongues", api.OK, func(g *api.Guest) { g.Tongues = []string{} }},
		{"4 tongues", api.OK, func(g *api.Guest) { g.Tongues = []string{"a", "aa", "ab", "b"} }},
		{"5 tongues", api.ErrTongue, func(g *api.Guest) { g.Tongues = []string{"a", "b", "c", "d", "e"} }},
		{"many tongues", api.ErrTongue, func(g *api.Guest) { g.Tongues = make([]string, 100000) }},
		{"an empty tongue", api.ErrTongue, func(g *api.Guest) { g.Tongues = []string{"", "latin"} }},
		{"a tongue twice", api.ErrTongue, func(g *api.Guest) { g.Tongues = []string{"french", "latin", "latin"} }},
		{"tongues that decrease", api.ErrTongue, func(g *api.Guest) { g.Tongues = []string{"french", "latin", "greek"} }},
		{"all wrong", api.ErrName, func(g *api.Guest) { *g = api.Guest{Since: -1, Side: 3, Tongues: []string{""}} }},
		{"diet and year", api.ErrName, func(g *api.Guest) { g.Diet, g.Since = "-", -1 }},
		{"year, side and tongue", api.ErrSince, func(g *api.Guest) { g.Since, g.Side, g.Tongues[0] = -1, 3, "z" }},
		{"side and tongue", api.ErrSide, func(g *api.Guest) { g.Side, g.Tongues[0] = 3, "z" }},
	} {
		g := ok
		g.Tongues = slices.Clone(ok.Tongues)
		x.change(&g)
		if e := guest.Check(g); e != x.e {
			t.Errorf("%s: %d, not %d", x.what, e, x.e)
		}
	}
}

// P2.1: Name, Rank, Court, Diet and Tongues have to be names.
func TestCheckNames(t *testing.T) {
	for _, name := range wrongNames {
		for i, g := range []api.Guest{{Name: name}, {Name: "a", Rank: name}, {Name: "a", Court: name}, {Name: "a", Diet: name}} {
			if e := guest.Check(g); e != api.ErrName {
				t.Errorf("%d: %.20q: %d", i, name, e)
			}
		}
		for i, tongues := range [][]string{{name}, {"\x01", name}, {name, "zz"}} {
			if e := guest.Check(api.Guest{Name: "a", Tongues: tongues}); e != api.ErrTongue {
				t.Errorf("tongue %d: %.20q: %d", i, name, e)
			}
		}
	}
}

// P2.1, P2.2: CheckRoll and Load find the first guest or tie that is wrong, and the first of its errors.
func TestCheckRoll(t *testing.T) {
	few := crowd(4) // a, aa, aaa, aaaa
	with := func(more ...api.Guest) api.Roll { return api.Roll{Guests: slices.Concat(few, more)} }
	tied := func(ties ...api.Tie) api.Roll { return api.Roll{Guests: few, Ties: ties} }
	full, ties := crowd(65), allTies(crowd(24), 257)
	for _, x := range []struct {
		what string
		r    api.Roll
		i    int
		e    api.Errno
	}{
		{"nothing", api.Roll{}, 0, api.OK},
		{"empty lists", api.Roll{Guests: []api.Guest{}, Ties: []api.Tie{}}, 0, api.OK},
		{"guests", with(), 0, api.OK},
		{"no name", with(api.Guest{}), 4, api.ErrName},
		{"a year", with(api.Guest{Name: "b", Since: -1, Side: 9}), 4, api.ErrSince},
		{"a side", with(api.Guest{Name: "b", Side: 9, Tongues: []string{""}}), 4, api.ErrSide},
		{"a tongue", with(api.Guest{Name: "b", Tongues: []string{""}}), 4, api.ErrTongue},
		{"twice", with(api.Guest{Name: "aa"}), 4, api.ErrTwice},
		{"twice and wrong", with(api.Guest{Name: "aa", Side: 9}), 4, api.ErrSide},
		{"twice, then wrong", with(api.Guest{Name: "b"}, api.Guest{Name: "b"}, api.Guest{}), 5, api.ErrTwice},
		{"wrong, then twice", with(api.Guest{Name: "b"}, api.Guest{}, api.Guest{Name: "b"}), 5, api.ErrName},
		{"64 guests", api.Roll{Guests: full[:64]}, 0, api.OK},
		{"65 guests", api.Roll{Guests: full}, 64, api.ErrMany},
		{"65 guests, one twice", api.Roll{Guests: slices.Concat(full[:64], full[:1])}, 64, api.ErrTwice},
		{"65 guests, one wrong", api.Roll{Guests: slices.Concat(full[:64], []api.Guest{{Name: "a", Side: 9}})}, 64, api.ErrSide},
		{"66 guests, one wrong", api.Roll{Guests: slices.Concat(full, []api.Guest{{}})}, 64, api.ErrMany},
		{"a guest and a tie", api.Roll{Guests: []api.Guest{{Name: "a"}, {}}, Ties: []api.Tie{{}}}, 1, api.ErrName},
		{"friends", tied(api.Tie{A: "a", B: "aa", Kind: api.Friend}), 0, api.OK},
		{"feuds", tied(api.Tie{A: "a", B: "aaa", Kind: api.Feud}, api.Tie{A: "aa", B: "aaa", Kind: api.Feud}), 0, api.OK},
		{"order by B", tied(api.Tie{A: "a", B: "aa", Kind: api.Feud}, api.Tie{A: "a", B: "aaa", Kind: api.Friend}), 0, api.OK},
		{"kind 0", tied(api.Tie{A: "a", B: "aa"}), 4, api.ErrTie},
		{"kind 3", tied(api.Tie{A: "a", B: "aa", Kind: 3}), 4, api.ErrTie},
		{"kind 255", tied(api.Tie{A: "a", B: "aa", Kind: 255}), 4, api.ErrTie},
		{"kind and name", tied(api.Tie{A: "a", B: "q", Kind: 3}), 4, api.ErrTie},
		{"itself", tied(api.Tie{A: "a", B: "a", Kind: api.Feud}), 4, api.ErrTie},
		{"nobody with itself", tied(api.Tie{A: "q", B: "q", Kind: api.Feud}), 4, api.ErrTie},
		{"greater first", tied(api.Tie{A: "aa", B: "a", Kind: api.Feud}), 4, api.ErrTie},
		{"unknown A", tied(api.Tie{A: "", B: "a", Kind: api.Feud}), 4, api.ErrUnknown},
		{"unknown B", tied(api.Tie{A: "a", B: "q", Kind: api.Feud}), 4, api.ErrUnknown},
		{"less by A", tied(api.Tie{A: "aa", B: "aaa", Kind: api.Feud}, api.Tie{A: "a", B: "aaaa", Kind: api.Feud}), 5, api.ErrTie},
		{"less by B", tied(api.Tie{A: "a", B: "aaa", Kind: api.Feud}, api.Tie{A: "a", B: "aa", Kind: api.Feud}), 5, api.ErrTie},
		{"less and unknown", tied(api.Tie{A: "a", B: "aaa", Kind: api.Feud}, api.Tie{A: "a", B: "aab", Kind: api.Feud}, api.Tie{A: "a", B: "aaaaaa", Kind: api.Feud}), 5, api.ErrUnknown},
		{"unknown and less", tied(api.Tie{A: "aa", B: "aaa", Kind: api.Feud}, api.Tie{A: "a", B: "q", Kind: api.Feud}), 5, api.ErrTie},
		{"a pair twice", tied(api.Tie{A: "a", B: "aa", Kind: api.Feud}, api.Tie{A: "a", B: "aa", Kind: api.Feud}), 5, api.ErrTwice},
		{"both kinds", tied(api.Tie{A: "a", B: "aa", Kind: api.Feud}, api.Tie{A: "a", B: "aa", Kind: api.Friend}), 5, api.ErrTwice},
		{"twice, then wrong", tied(api.Tie{A: "a", B: "aa", Kind: api.Feud}, api.Tie{A: "a", B: "aa", Kind: api.Friend}, api.Tie{}), 5, api.ErrTwice},
		{"wrong, then twice", tied(api.Tie{A: "a", B: "aa", Kind: api.Feud}, api.Tie{}, api.Tie{A: "a", B: "aa", Kind: api.Feud}), 5, api.ErrTie},
		{"ties of nobody", api.Roll{Ties: []api.Tie{{A: "a", B: "aa", Kind: api.Feud}}}, 0, api.ErrUnknown},
		{"256 ties", api.Roll{Guests: full[:24], Ties: ties[:256]}, 0, api.OK},
		{"257 ties", api.Roll{Guests: full[:24], Ties: ties}, 24 + 256, api.ErrMany},
		{"257 ties, one twice", api.Roll{Guests: full[:24], Ties: slices.Concat(ties[:256], ties[255:256])}, 24 + 256, api.ErrTwice},
		{"257 ties, one wrong", api.Roll{Guests: full[:24], Ties: slices.Concat(ties[:256], ties[:1])}, 24 + 256, api.ErrTie},
		{"257 ties, one unknown", api.Roll{Guests: full[:24], Ties: slices.Concat(ties[:256], []api.Tie{{A: "x", B: "y", Kind: api.Feud}})}, 24 + 256, api.ErrUnknown},
	} {
		if i, e := guest.CheckRoll(x.r); i != x.i || e != x.e {
			t.Errorf("%s: %d, %d, not %d, %d", x.what, i, e, x.i, x.e)
		}
		b, i, e := guest.Load(x.r)
		if i != x.i || e != x.e || (b != nil) != (x.e == api.OK) {
			t.Errorf("%s: Load: %t, %d, %d, not %d, %d", x.what, b != nil, i, e, x.i, x.e)
		}
		if e == api.OK && (!sameRoll(b.Roll(), x.r) || b.Len() != len(x.r.Guests)) {
			t.Errorf("%s: %v", x.what, b.Roll())
		}
		if text := guest.Format(x.r); (text == "") != (x.e != api.OK || len(x.r.Guests) == 0) {
			t.Errorf("%s: text %.40q", x.what, text)
		}
	}
}
