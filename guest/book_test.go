package guest_test

import (
	"math/rand"
	"slices"
	"testing"

	"trestle/api"
	"trestle/guest"
)

// example is the book of the chapter's examples.
func example(t *testing.T) *guest.Book {
	return load(t, api.Roll{
		Guests: []api.Guest{{Name: "anna", Tongues: []string{"french", "latin"}}, {Name: "boris", Tongues: []string{"french"}}, {Name: "carl", Tongues: []string{"danish", "latin"}}, {Name: "dora"}},
		Ties:   []api.Tie{{A: "anna", B: "boris", Kind: api.Feud}, {A: "anna", B: "carl", Kind: api.Friend}, {A: "boris", B: "carl", Kind: api.Feud}},
	})
}

// P2.2: a new book has no guests; a loaded one has the content of its roll.
func TestNewAndLoad(t *testing.T) {
	b := guest.New()
	if b == nil || b.Len() != 0 || !isEmpty(b.Roll()) || len(b.Circles()) != 0 || len(b.Diets()) != 0 {
		t.Fatal("a new book")
	}
	if camps, ring := b.Camps(); len(camps) != 0 || len(ring) != 0 {
		t.Error("camps of nobody", camps, ring)
	}
	if e := b.Add(api.Guest{Name: "a"}); e != api.OK || b.Len() != 1 || guest.New().Len() != 0 {
		t.Error("two new books", e)
	}
	r := rand.New(rand.NewSource(1))
	for range 200 {
		roll := anyRoll(r, r.Intn(65), 2+r.Intn(10))
		b := load(t, roll)
		if !sameRoll(b.Roll(), roll) || b.Len() != len(roll.Guests) {
			t.Fatalf("%v gives %v", roll, b.Roll())
		}
		for _, g := range roll.Guests {
			if h, ok := b.Find(g.Name); !ok || !sameGuest(g, h) {
				t.Fatalf("Find(%s) is %v", g.Name, h)
			}
		}
		for _, name := range append(wrongNames, "", "aaaaaaaaaaaaa", "zz") {
			if g, ok := b.Find(name); ok || !sameGuest(g, api.Guest{}) {
				t.Fatalf("Find(%.20q) is %v", name, g)
			}
		}
	}
}

// P2.3: a guest comes behind all others; the errors of Add.
func TestAdd(t *testing.T) {
	b := example(t)
	if e := b.Add(api.Guest{Name: "abe", Rank: "duke", Host: true}); e != api.OK || b.Len() != 5 || b.Roll().Guests[4].Name != "abe" {
		t.Error("abe", e, b.Roll())
	}
	before := b.Roll()
	for _, x := range []struct {
		g api.Guest
		e api.Errno
	}{
		{api.Guest{}, api.ErrName},
		{api.Guest{Name: "eve", Diet: "No"}, api.ErrName},
		{api.Guest{Name: "anna", Since: 10000}, api.ErrSince},
		{api.Guest{Name: "anna", Side: 3}, api.ErrSide},
		{api.Guest{Name: "anna", Tongues: []string{"b", "a"}}, api.ErrTongue},
		{api.Guest{Name: "anna"}, api.ErrTwice},
		{api.Guest{Name: "abe", Rank: "count"}, api.ErrTwice},
	} {
		if e := b.Add(x.g); e != x.e {
			t.Errorf("Add(%v) is %d, not %d", x.g, e, x.e)
		}
	}
	if !sameRoll(b.Roll(), before) {
		t.Error("an error has changed the book")
	}
	full := guest.New()
	for i, g := range crowd(65) {
		want := api.OK
		if i == 64 {
			want = api.ErrMany
		}
		if e := full.Add(g); e != want {
			t.Error("guest", i, e)
		}
	}
	if e := full.Add(api.Guest{Name: "a"}); e != api.ErrTwice {
		t.Error("twice and many", e)
	}
	if e := full.Add(api.Guest{Name: "a", Side: 3}); e != api.ErrSide || full.Len() != 64 {
		t.Error("wrong and many", e)
	}
	if _, e := full.Remove("aaa"); e != api.OK || full.Add(api.Guest{Name: "z"}) != api.OK || full.Add(api.Guest{Name: "aaa"}) != api.ErrMany {
		t.Error("a place that became free")
	}
}

// P2.3: a guest goes with all its ties, and the others keep their order.
func TestRemove(t *testing.T) {
	b := example(t)
	before := b.Roll()
	for _, name := range []string{"", "eve", "ann", "annaa", "Anna"} {
		if n, e := b.Remove(name); n != 0 || e != api.ErrUnknown || !sameRoll(b.Roll(), before) {
			t.Errorf("Remove(%s): %d, %d", name, n, e)
		}
	}
	for _, x := range []struct {
		name  string
		n     int
		left  []string
		pairs int
	}{{"dora", 0, []string{"anna", "boris", "carl"}, 3}, {"boris", 2, []string{"anna", "carl"}, 1}, {"anna", 1, []string{"carl"}, 0}, {"carl", 0, nil, 0}} {
		n, e := b.Remove(x.name)
		r := b.Roll()
		if n != x.n || e != api.OK || len(r.Guests) != len(x.left) || b.Len() != len(x.left) || len(r.Ties) != x.pairs {
			t.Errorf("Remove(%s): %d, %d, %v", x.name, n, e, r)
		}
		for i, name := range x.left {
			g, ok := b.Find(name)
			if !ok || !sameGuest(g, r.Guests[i]) || g.Name != name {
				t.Errorf("Remove(%s): %s is %v", x.name, name, g)
			}
		}
		if n, e := b.Remove(x.name); n != 0 || e != api.ErrUnknown {
			t.Errorf("Remove(%s) twice: %d, %d", x.name, n, e)
		}
	}
}

// P2.3: a guest with another name keeps its place, what is known of it, and its ties.
func TestRename(t *testing.T) {
	b := example(t)
	before := b.Roll()
	for _, x := range []struct {
		from, to string
		e        api.Errno
	}{
		{"eve", "Carl", api.ErrUnknown}, {"eve", "anna", api.ErrUnknown}, {"", "", api.ErrUnknown}, {"Carl", "Carl", api.ErrUnknown},
		{"carl", "Carl", api.ErrName}, {"carl", "", api.ErrName}, {"carl", "-", api.ErrName}, {"carl", "abcdefghijklm", api.ErrName},
		{"carl", "anna", api.ErrTwice}, {"carl", "carl", api.ErrTwice},
	} {
		if e := b.Rename(x.from, x.to); e != x.e || !sameRoll(b.Roll(), before) {
			t.Errorf("Rename(%s, %s) is %d, not %d", x.from, x.to, e, x.e)
		}
	}
	if e := b.Rename("anna", "bruno"); e != api.OK {
		t.Error("bruno", e)
	}
	if e := b.Rename("boris", "abcdefghijkl"); e != api.OK {
		t.Error("abcdefghijkl", e)
	}
	want := api.Roll{Guests: before.Guests, Ties: []api.Tie{{A: "abcdefghijkl", B: "bruno", Kind: api.Feud}, {A: "abcdefghijkl", B: "carl", Kind: api.Feud}, {A: "bruno", B: "carl", Kind: api.Friend}}}
	want.Guests[0].Name, want.Guests[1].Name = "bruno", "abcdefghijkl"
	if r := b.Roll(); !sameRoll(r, want) {
		t.Error(r)
	}
	if _, ok := b.Find("anna"); ok {
		t.Error("the old name")
	}
	if g, ok := b.Find("bruno"); !ok || !sameGuest(g, want.Guests[0]) {
		t.Error("the new name", g)
	}
	if e := b.Rename("carl", "anna"); e != api.OK || b.Add(api.Guest{Name: "carl"}) != api.OK {
		t.Error("names that became free", e)
	}
}

// P2.3: ties, and the errors of Tie and Untie.
func TestTie(t *testing.T) {
	b := example(t)
	before := b.Roll()
	for _, x := range []struct {
		one, other string
		kind       api.TieKind
		e          api.Errno
	}{
		{"anna", "dora", 0, api.ErrTie}, {"anna", "dora", 3, api.ErrTie}, {"eve", "dora", 255, api.ErrTie}, {"carl", "anna", 0, api.ErrTie},
		{"anna", "anna", api.Feud, api.ErrTie}, {"eve", "eve", api.Friend, api.ErrTie}, {"", "", api.Friend, api.ErrTie},
		{"eve", "anna", api.Feud, api.ErrUnknown}, {"anna", "eve", api.Friend, api.ErrUnknown}, {"eve", "fred", api.Friend, api.ErrUnknown}, {"anna", "", api.Friend, api.ErrUnknown},
		{"carl", "anna", api.Feud, api.ErrTwice}, {"anna", "carl", api.Friend, api.ErrTwice}, {"anna", "boris", api.Friend, api.ErrTwice},
	} {
		if e := b.Tie(x.one, x.other, x.kind); e != x.e || !sameRoll(b.Roll(), before) {
			t.Errorf("Tie(%s, %s, %d) is %d, not %d", x.one, x.other, x.kind, e, x.e)
		}
	}
	for _, x := range [][2]string{{"anna", "dora"}, {"anna", "anna"}, {"eve", "anna"}, {"anna", "eve"}, {"", ""}} {
		if e := b.Untie(x[0], x[1]); e != api.ErrUnknown || !sameRoll(b.Roll(), before) {
			t.Errorf("Untie(%s, %s) is %d", x[0], x[1], e)
		}
	}
	if b.Tie("dora", "anna", api.Feud) != api.OK || b.Untie("carl", "anna") != api.OK || b.Untie("anna", "boris") != api.OK || b.Tie("carl", "anna", api.Feud) != api.OK {
		t.Error("what is right has an error")
	}
	want := []api.Tie{{A: "anna", B: "carl", Kind: api.Feud}, {A: "anna", B: "dora", Kind: api.Feud}, {A: "boris", B: "carl", Kind: api.Feud}}
	if r := b.Roll(); !slices.Equal(r.Ties, want) {
		t.Error(r.Ties)
	}
}

// P2.3: a book has MaxTies ties and no more.
func TestManyTies(t *testing.T) {
	b, guests := guest.New(), crowd(24)
	for _, g := range guests {
		b.Add(g)
	}
	ties := allTies(guests, 257)
	for i := range ties {
		// Backwards, so that each tie comes before those that are there.
		k := 256 - i
		want := api.OK
		if i == 256 {
			want = api.ErrMany
		}
		if e := b.Tie(ties[k].B, ties[k].A, ties[k].Kind); e != want {
			t.Fatal("tie", i, e)
		}
	}
	if !slices.Equal(b.Roll().Ties, ties[1:]) {
		t.Error(b.Roll().Ties)
	}
	last := ties[256]
	if b.Tie(last.A, last.B, last.Kind) != api.ErrTwice || b.Tie(last.A, "q", last.Kind) != api.ErrUnknown || b.Tie(last.A, last.B, 3) != api.ErrTie {
		t.Error("errors before ErrMany")
	}
	if b.Untie(last.A, last.B) != api.OK || b.Tie(ties[0].A, ties[0].B, ties[0].Kind) != api.OK || b.Tie(last.A, last.B, last.Kind) != api.ErrMany {
		t.Error("a tie that became free")
	}
}

// P2.2, P2.3: any changes have the results that they have in a model of a book.
func TestAnyChanges(t *testing.T) {
	r := rand.New(rand.NewSource(2))
	all := append(names(15), "", "Q")
	for range 300 {
		b, m := guest.New(), &model{kinds: map[[2]string]api.TieKind{}}
		name := func() string { return pick(r, all...) }
		for range 80 {
			one, other, kind := name(), name(), api.TieKind(r.Intn(4))
			var got, want api.Errno
			n, k := 0, 0
			switch r.Intn(8) {
			case 0, 1:
				if one == "" || one == "Q" {
					continue
				}
				g := anyGuest(r, one)
				got, want = b.Add(g), m.add(g)
			case 2:
				n, got = b.Remove(one)
				k, want = m.remove(one)
			case 3:
				got, want = b.Rename(one, other), m.rename(one, other)
			case 4:
				got, want = b.Untie(one, other), m.untie(one, other)
			default:
				got, want = b.Tie(one, other, kind), m.tie(one, other, kind)
			}
			if got != want || n != k || b.Len() != len(m.guests) || !sameRoll(b.Roll(), m.roll()) {
				t.Fatalf("%s, %s, %d: %d, not %d; %v, not %v", one, other, kind, got, want, b.Roll(), m.roll())
			}
			if i := m.at(one); i >= 0 {
				if g, ok := b.Find(one); !ok || !sameGuest(g, m.guests[i]) {
					t.Fatalf("%s is %v", one, g)
				}
			} else if _, ok := b.Find(one); ok {
				t.Fatalf("%s is there", one)
			}
		}
	}
}

// R3: a nil book, and one that no function returned, have nothing, and cannot be changed.
func TestNoBook(t *testing.T) {
	for i, b := range []*guest.Book{nil, {}, new(guest.Book)} {
		n, e := b.Remove("a")
		errors := []api.Errno{e, b.Add(api.Guest{Name: "a"}), b.Add(api.Guest{}), b.Rename("a", "b"), b.Rename("a", ""), b.Tie("a", "b", api.Friend), b.Tie("a", "a", 0), b.Untie("a", "b")}
		if slices.ContainsFunc(errors, func(e api.Errno) bool { return e != api.ErrNil }) || n != 0 {
			t.Error(i, n, errors)
		}
		g, found := b.Find("a")
		kind, tied := b.Tied("a", "b")
		chain, linked := b.Chain("a", "a")
		camps, ring := b.Camps()
		if found || !sameGuest(g, api.Guest{}) || kind != 0 || tied || len(chain) != 0 || linked || len(camps) != 0 || len(ring) != 0 {
			t.Error(i, g, kind, chain, camps, ring)
		}
		if b.Len() != 0 || !isEmpty(b.Roll()) || len(b.With("a", api.Feud)) != 0 || len(b.Common("a", "a")) != 0 || len(b.Circles()) != 0 || len(b.Diets()) != 0 {
			t.Error(i, "has something")
		}
	}
}

// R4: a book keeps no memory of an argument and gives none of its own.
func TestMemory(t *testing.T) {
	g := api.Guest{Name: "eve", Tongues: []string{"french", "latin"}}
	roll := api.Roll{Guests: []api.Guest{g, {Name: "fred", Tongues: []string{"french", "latin"}}}, Ties: []api.Tie{{A: "eve", B: "fred", Kind: api.Feud}}}
	b, added := load(t, roll), guest.New()
	added.Add(g)
	g.Tongues[0] = "x"
	roll.Guests[1].Tongues[1] = "x"
	roll.Guests[0].Name = "x"
	roll.Ties[0] = api.Tie{}
	spoil := func(r api.Roll) {
		for i := range r.Guests {
			_ = append(r.Guests[i].Tongues, "y")
			r.Guests[i].Tongues[0], r.Guests[i].Name = "x", "x"
		}
		for i := range r.Ties {
			r.Ties[i] = api.Tie{}
		}
		_ = append(r.Ties, api.Tie{})
	}
	text := "guest eve - - 0 0 - - french latin\nguest fred - - 0 0 - - french latin\nfeud eve fred\n"
	for range 2 {
		if guest.Format(b.Roll()) != text || guest.Format(added.Roll()) != text[:35] {
			t.Fatal(guest.Format(b.Roll()), guest.Format(added.Roll()))
		}
		spoil(b.Roll())
		found, _ := b.Find("eve")
		chain, _ := b.Chain("eve", "fred")
		for _, list := range [][]string{found.Tongues, chain, b.Common("eve", "eve"), b.Common("eve", "fred"), b.With("eve", api.Feud), b.Circles()[0], b.Circles()[1]} {
			list[0] = "x"
		}
		camps, _ := b.Camps()
		camps[0], b.Diets()[0].N = 7, 7
	}
	parsed, _, _ := guest.Parse(text)
	again, _, _ := guest.Parse(text)
	spoil(parsed)
	if guest.Format(again) != text {
		t.Error("two results share memory")
	}
	guest.CheckRoll(again)
	guest.Format(again)
	c := load(t, again)
	c.Rename("eve", "zoe")
	c.Add(api.Guest{Name: "gil"})
	c.Remove("fred")
	if guest.Format(again) != text {
		t.Error("an argument was changed")
	}
}

// R4: changes of a book do not reach what it gave before.
func TestOldResults(t *testing.T) {
	b := example(t)
	before := b.Roll()
	text := guest.Format(before)
	circles := b.Circles()
	b.Rename("anna", "zoe")
	b.Untie("boris", "carl")
	b.Remove("carl")
	b.Add(api.Guest{Name: "abe", Tongues: []string{"welsh"}})
	b.Tie("abe", "dora", api.Friend)
	if guest.Format(before) != text || !slices.Equal(circles[0], []string{"anna", "carl"}) {
		t.Error(before, circles)
	}
}
