package rule

import (
	"slices"

	"trestle/api"
	"trestle/guest"
	"trestle/hall"
)

// Check checks a problem: the index of the first wrong part, and its error.
func Check(p api.Problem) (int, api.Errno) {
	if i, e := checkFrame(p); e != api.OK {
		return i, e
	}
	all := kinds()
	for i, r := range p.Rules {
		if e := all[r.Kind].check(p, r); e != api.OK {
			return i, e
		}
		if i == api.MaxRules {
			return i, api.ErrMany
		}
	}
	return 0, api.OK
}

// CheckRule checks a rule of a problem.
func CheckRule(p api.Problem, r api.Rule) api.Errno {
	if _, e := checkFrame(p); e != api.OK {
		return api.ErrArg
	}
	return kinds()[r.Kind].check(p, r)
}

// checkFrame checks all of a problem but its rules.
func checkFrame(p api.Problem) (int, api.Errno) {
	if i, e := hall.CheckAll(p.Tables); e != api.OK {
		return i, e
	}
	if i, e := guest.CheckRoll(api.Roll{Guests: p.Guests, Ties: p.Ties}); e != api.OK {
		return i, e
	}
	isNoClass := func(c int) bool { return c < 0 || c >= api.MaxGuests }
	switch {
	case len(p.Class) != 0 && len(p.Class) != len(p.Guests) || slices.ContainsFunc(p.Class, isNoClass):
		return 0, api.ErrClass
	case len(p.Guests) > hall.Count(p.Tables):
		return 0, api.ErrRoom
	}
	return 0, api.OK
}

// isValid reports whether a problem is valid.
func isValid(p api.Problem) bool {
	_, e := Check(p)
	return e == api.OK
}

// check checks a rule of the kind, of a problem that is valid without its rules. A kind that does not exist has no word.
func (k kind) check(p api.Problem, r api.Rule) api.Errno {
	switch {
	case k.word == "":
		return api.ErrKind
	case r.Weight < 0 || r.Weight > api.MaxWeight:
		return api.ErrWeight
	case k.leavesOut(r):
		return api.ErrField
	case !k.a.finds(p, r.A) || !k.b.finds(p, r.B):
		return api.ErrUnknown
	case k.a == aDiet && !isName(r.A):
		return api.ErrName
	case k.b != nothing && r.A == r.B:
		return api.ErrTwice
	case !k.table.finds(p, r.Table):
		return api.ErrUnknown
	case !k.n.allows(p, r):
		return api.ErrCount
	}
	return api.OK
}

// leavesOut reports whether a rule has something in a field that the kind does not use.
func (k kind) leavesOut(r api.Rule) bool {
	for _, s := range k.slots(&r) {
		if s.holds == nothing && *s.name != "" {
			return true
		}
	}
	return k.n == nothing && r.N != 0
}

// slot is a field of a rule for a name, and what a kind keeps in it.
type slot struct {
	holds field
	name  *string
}

// slots returns the fields of a rule of the kind that are for names, in the order in which a text has them.
func (k kind) slots(r *api.Rule) []slot {
	return []slot{{k.a, &r.A}, {k.b, &r.B}, {k.table, &r.Table}}
}

// mayBeEmpty reports whether a field that is used may be empty.
func (f field) mayBeEmpty() bool { return f == guestOrNone || f == tableOrNone }

// finds reports whether the guest or table is there that a field names, if it has to name one.
func (f field) finds(p api.Problem, name string) bool {
	switch {
	case f.mayBeEmpty() && name == "":
		return true
	case f == aGuest || f == guestOrNone:
		return slices.ContainsFunc(p.Guests, func(g api.Guest) bool { return g.Name == name })
	case f == aTable || f == tableOrNone:
		_, ok := hall.Find(p.Tables, name)
		return ok
	}
	return true
}

// allows reports whether the number of a rule, whose table is there, is in its range.
func (f field) allows(p api.Problem, r api.Rule) bool {
	switch f {
	case fromZero:
		return r.N >= 0 && r.N <= api.MaxTable
	case fromOne:
		return r.N >= 1 && r.N <= api.MaxTable
	case aSeat:
		t, _ := hall.Find(p.Tables, r.Table)
		return r.N >= 0 && r.N < hall.Seats(p.Tables[t])
	}
	return true
}

// isName reports whether a text is a name: whether a guest may have it.
func isName(s string) bool { return guest.Check(api.Guest{Name: s}) == api.OK }
