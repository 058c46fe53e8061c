package guest

import (
	"cmp"
	"slices"

	"trestle/api"
)

// Tie ties a pair.
func (b *Book) Tie(one, other string, kind api.TieKind) api.Errno {
	switch {
	case !b.isBook():
		return api.ErrNil
	case !isKind(kind) || one == other:
		return api.ErrTie
	case !b.has(one) || !b.has(other):
		return api.ErrUnknown
	}
	i, tied := b.seek(one, other)
	switch {
	case tied:
		return api.ErrTwice
	case len(b.ties) == api.MaxTies:
		return api.ErrMany
	}
	b.ties = slices.Insert(b.ties, i, join(one, other, kind))
	return api.OK
}

// Untie takes a pair's tie away.
func (b *Book) Untie(one, other string) api.Errno {
	if !b.isBook() {
		return api.ErrNil
	}
	i, tied := b.seek(one, other)
	if !tied {
		return api.ErrUnknown
	}
	b.ties = slices.Delete(b.ties, i, i+1)
	return api.OK
}

// Tied returns the kind of a pair's tie.
func (b *Book) Tied(one, other string) (api.TieKind, bool) {
	if !b.isBook() {
		return 0, false
	}
	i, tied := b.seek(one, other)
	if !tied {
		return 0, false
	}
	return b.ties[i].Kind, true
}

// With returns whom ties of a kind join to a guest.
func (b *Book) With(name string, kind api.TieKind) []string {
	if !b.isBook() {
		return nil
	}
	// The ties to lesser names stand before those to greater ones, and both stand in increasing order.
	var list []string
	for _, t := range b.ties {
		switch {
		case t.Kind != kind:
		case t.A == name:
			list = append(list, t.B)
		case t.B == name:
			list = append(list, t.A)
		}
	}
	return list
}

// addTie adds a tie that has to come behind all others.
func (b *Book) addTie(t api.Tie) api.Errno {
	n := len(b.ties)
	if t.A >= t.B || n > 0 && compareTies(t, b.ties[n-1]) < 0 {
		return api.ErrTie
	}
	return b.Tie(t.A, t.B, t.Kind)
}

// renameTies gives all ties of a guest its other name.
func (c *content) renameTies(from, to string) {
	renamed := func(name string) string {
		if name == from {
			return to
		}
		return name
	}
	for i, t := range c.ties {
		c.ties[i] = join(renamed(t.A), renamed(t.B), t.Kind)
	}
	slices.SortFunc(c.ties, compareTies)
}

// seek returns where a pair's tie stands, or where it would stand, and whether there is one.
func (c *content) seek(one, other string) (int, bool) {
	return slices.BinarySearchFunc(c.ties, join(one, other, 0), compareTies)
}

// join returns the tie of a pair.
func join(one, other string, kind api.TieKind) api.Tie {
	return api.Tie{A: min(one, other), B: max(one, other), Kind: kind}
}

// compareTies compares the pairs of two ties.
func compareTies(s, t api.Tie) int {
	return cmp.Or(cmp.Compare(s.A, t.A), cmp.Compare(s.B, t.B))
}
