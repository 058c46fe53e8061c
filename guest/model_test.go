package guest_test

import (
	"math/rand"
	"slices"
	"strings"
	"testing"

	"trestle/api"
	"trestle/guest"
)

// names returns n names in increasing order, of 1 to 12 letters, some of them the beginnings of others.
func names(n int) []string {
	var list []string
	for i := range n {
		list = append(list, strings.Repeat(string(rune('a'+i/12)), 1+i%12))
	}
	return list
}

// crowd returns n guests without anything but their names.
func crowd(n int) []api.Guest {
	var list []api.Guest
	for _, name := range names(n) {
		list = append(list, api.Guest{Name: name})
	}
	return list
}

// allTies returns the first n pairs of some guests whose names increase, as ties in increasing order.
func allTies(guests []api.Guest, n int) []api.Tie {
	var list []api.Tie
	for i, g := range guests {
		for _, h := range guests[i+1:] {
			if len(list) < n {
				list = append(list, api.Tie{A: g.Name, B: h.Name, Kind: api.TieKind(1 + len(list)%2)})
			}
		}
	}
	return list
}

// sameGuest compares two guests; a nil list is an empty list.
func sameGuest(g, h api.Guest) bool {
	return g.Name == h.Name && g.Rank == h.Rank && g.Court == h.Court && g.Since == h.Since && g.Side == h.Side &&
		g.Diet == h.Diet && g.Host == h.Host && g.Access == h.Access && slices.Equal(g.Tongues, h.Tongues)
}

// sameRoll compares two rolls.
func sameRoll(r, s api.Roll) bool {
	return slices.EqualFunc(r.Guests, s.Guests, sameGuest) && slices.Equal(r.Ties, s.Ties)
}

// isEmpty reports whether a roll is the zero value.
func isEmpty(r api.Roll) bool { return len(r.Guests) == 0 && len(r.Ties) == 0 }

// load returns a book with the content of a roll that has to be valid.
func load(t *testing.T, r api.Roll) *guest.Book {
	t.Helper()
	b, i, e := guest.Load(r)
	if b == nil || i != 0 || e != api.OK {
		t.Fatalf("Load(%v): %d, %d", r, i, e)
	}
	return b
}

// model is a book that is kept as simply as possible.
type model struct {
	guests []api.Guest
	kinds  map[[2]string]api.TieKind
}

func (m *model) at(name string) int {
	return slices.IndexFunc(m.guests, func(g api.Guest) bool { return g.Name == name })
}

func (m *model) roll() api.Roll {
	r := api.Roll{Guests: m.guests}
	for pair, kind := range m.kinds {
		r.Ties = append(r.Ties, api.Tie{A: pair[0], B: pair[1], Kind: kind})
	}
	slices.SortFunc(r.Ties, func(s, t api.Tie) int {
		return slices.Compare([]string{s.A, s.B}, []string{t.A, t.B})
	})
	return r
}

func pairOf(one, other string) [2]string {
	if one < other {
		return [2]string{one, other}
	}
	return [2]string{other, one}
}

func (m *model) add(g api.Guest) api.Errno {
	if m.at(g.Name) >= 0 {
		return api.ErrTwice
	}
	m.guests = append(m.guests, g)
	return api.OK
}

func (m *model) remove(name string) (int, api.Errno) {
	i := m.at(name)
	if i < 0 {
		return 0, api.ErrUnknown
	}
	m.guests = slices.Concat(m.guests[:i], m.guests[i+1:])
	n := 0
	for pair := range m.kinds {
		if pair[0] == name || pair[1] == name {
			n++
			delete(m.kinds, pair)
		}
	}
	return n, api.OK
}

func (m *model) rename(from, to string) api.Errno {
	i := m.at(from)
	switch {
	case i < 0:
		return api.ErrUnknown
	case to == "" || to == "Q":
		return api.ErrName
	case m.at(to) >= 0:
		return api.ErrTwice
	}
	m.guests = slices.Clone(m.guests)
	m.guests[i].Name = to
	kinds := map[[2]string]api.TieKind{}
	for pair, kind := range m.kinds {
		if pair[0] == from {
			pair[0] = to
		}
		if pair[1] == from {
			pair[1] = to
		}
		kinds[pairOf(pair[0], pair[1])] = kind
	}
	m.kinds = kinds
	return api.OK
}

func (m *model) tie(one, other string, kind api.TieKind) api.Errno {
	switch {
	case kind < 1 || kind > 2 || one == other:
		return api.ErrTie
	case m.at(one) < 0 || m.at(other) < 0:
		return api.ErrUnknown
	case m.kinds[pairOf(one, other)] != 0:
		return api.ErrTwice
	}
	m.kinds[pairOf(one, other)] = kind
	return api.OK
}

func (m *model) untie(one, other string) api.Errno {
	if m.kinds[pairOf(one, other)] == 0 {
		return api.ErrUnknown
	}
	delete(m.kinds, pairOf(one, other))
	return api.OK
}

func (m *model) with(name string, kind api.TieKind) []string {
	var list []string
	for pair, k := range m.kinds {
		if k == kind && pair[0] == name {
			list = append(list, pair[1])
		}
		if k == kind && pair[1] == name {
			list = append(list, pair[0])
		}
	}
	slices.Sort(list)
	return list
}

func (m *model) common(one, other string) []string {
	i, k := m.at(one), m.at(other)
	if i < 0 || k < 0 {
		return nil
	}
	return slices.DeleteFunc(slices.Clone(m.guests[i].Tongues), func(tongue string) bool {
		return !slices.Contains(m.guests[k].Tongues, tongue)
	})
}

// chain looks through all chains that have each guest once at most.
func (m *model) chain(one, other string) []string {
	var best []string
	var extend func(chain []string)
	extend = func(chain []string) {
		last := chain[len(chain)-1]
		if last == other && (best == nil || len(chain) < len(best) || len(chain) == len(best) && slices.Compare(chain, best) < 0) {
			best = slices.Clone(chain)
		}
		for _, g := range m.guests {
			if !slices.Contains(chain, g.Name) && len(m.common(last, g.Name)) > 0 {
				extend(slices.Concat(chain, []string{g.Name}))
			}
		}
	}
	if m.at(one) >= 0 && m.at(other) >= 0 {
		extend([]string{one})
	}
	return best
}

// circles joins the circles of friends, beginning with each guest alone, until nothing changes.
func (m *model) circles() [][]string {
	in := map[string]string{}
	for _, g := range m.guests {
		in[g.Name] = g.Name
	}
	for range m.guests {
		for pair, kind := range m.kinds {
			if kind == api.Friend {
				least := min(in[pair[0]], in[pair[1]])
				in[pair[0]], in[pair[1]] = least, least
			}
		}
	}
	members := map[string][]string{}
	for name, first := range in {
		members[first] = append(members[first], name)
	}
	var list [][]string
	for _, circle := range members {
		slices.Sort(circle)
		list = append(list, circle)
	}
	slices.SortFunc(list, slices.Compare[[]string])
	return list
}

// camps looks through all lists of camps: the first one that keeps enemies apart is the one that is meant, because in it no
// guest that could have 0 has 1.
func (m *model) camps() ([]int, bool) {
	n := len(m.guests)
	for bits := range 1 << n {
		list := make([]int, n)
		for i := range list {
			list[i] = bits >> (n - 1 - i) & 1
		}
		apart := true
		for pair, kind := range m.kinds {
			if kind == api.Feud && list[m.at(pair[0])] == list[m.at(pair[1])] {
				apart = false
			}
		}
		if apart {
			return list, true
		}
	}
	return nil, false
}

func (m *model) diets() []guest.Count {
	var list []guest.Count
	for _, g := range m.guests {
		i := slices.IndexFunc(list, func(c guest.Count) bool { return c.Diet == g.Diet })
		if i < 0 {
			list = append(list, guest.Count{Diet: g.Diet, N: 1})
		} else {
			list[i].N++
		}
	}
	slices.SortFunc(list, func(c, d guest.Count) int { return strings.Compare(c.Diet, d.Diet) })
	return list
}

// checkRing checks that a ring is one of feuds, with an odd number of different guests.
func checkRing(t *testing.T, b *guest.Book, ring []string) {
	t.Helper()
	if len(ring) < 3 || len(ring)%2 == 0 {
		t.Fatalf("a ring of %d: %v", len(ring), ring)
	}
	for i, name := range ring {
		next := ring[(i+1)%len(ring)]
		if kind, ok := b.Tied(name, next); !ok || kind != api.Feud || slices.Contains(ring[:i], name) {
			t.Fatalf("%s and %s in the ring %v", name, next, ring)
		}
	}
}

// pick returns one of some values.
func pick[T any](r *rand.Rand, values ...T) T { return values[r.Intn(len(values))] }

// anyGuest returns a valid guest of a name.
func anyGuest(r *rand.Rand, name string) api.Guest {
	g := api.Guest{Name: name, Rank: pick(r, "", "duke", "count"), Court: pick(r, "", "spain"), Since: pick(r, 0, 1, 1998, 9999)}
	g.Side, g.Diet, g.Host, g.Access = r.Intn(3), pick(r, "", "vegan", "halal"), pick(r, true, false), pick(r, true, false)
	for _, tongue := range []string{"danish", "french", "greek", "irish", "latin", "welsh"} {
		if r.Intn(6) == 0 && len(g.Tongues) < 4 {
			g.Tongues = append(g.Tongues, tongue)
		}
	}
	return g
}

// anyRoll returns a valid roll of n guests in any order, each pair of whom has a tie with a probability of one to some number.
func anyRoll(r *rand.Rand, n, rare int) api.Roll {
	m := model{kinds: map[[2]string]api.TieKind{}}
	all := names(n)
	for _, i := range r.Perm(n) {
		m.guests = append(m.guests, anyGuest(r, all[i]))
	}
	for i, name := range all {
		for _, other := range all[:i] {
			if r.Intn(rare) == 0 && len(m.kinds) < api.MaxTies {
				m.kinds[pairOf(name, other)] = pick(r, api.Friend, api.Feud)
			}
		}
	}
	return m.roll()
}

// modelOf returns the model with the content of a roll.
func modelOf(r api.Roll) *model {
	m := &model{guests: r.Guests, kinds: map[[2]string]api.TieKind{}}
	for _, t := range r.Ties {
		m.kinds[[2]string{t.A, t.B}] = t.Kind
	}
	return m
}
