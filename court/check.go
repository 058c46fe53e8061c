package court

import (
	"slices"
	"strings"

	"trestle/api"
)

// form tells which fields the clauses of a kind use, and with which word they begin in a text.
type form struct {
	word        string
	least, most int // N
	last, names bool
	forAll      bool // must Among be empty?
}

// forms are the forms of all kinds.
var forms = [...]form{
	api.ByRank:   {word: "rank", names: true, forAll: true},
	api.ByElder:  {word: "elder"},
	api.ByYouth:  {word: "youth"},
	api.BySide:   {word: "side", least: 1, most: 2, last: true},
	api.ByHost:   {word: "host", last: true},
	api.ByTongue: {word: "tongue", last: true, names: true},
	api.ByCourt:  {word: "court", last: true, names: true},
	api.ByName:   {word: "name"},
	api.ByList:   {word: "list"},
	api.ByLot:    {word: "lot", most: places - 1},
}

// Check reports whether a court's text is valid: the index of the first clause with an error, and the error.
func Check(c []api.Clause) (int, api.Errno) {
	if len(c) > api.MaxClause {
		return 0, api.ErrMany
	}
	for i, x := range c {
		if e := checkNext(c[:i], x); e != api.OK {
			return i, e
		}
	}
	return 0, api.OK
}

// checkNext finds what is wrong with a clause that comes after the clauses before it.
func checkNext(before []api.Clause, x api.Clause) api.Errno {
	isNoName := func(s string) bool { return !isName(s) }
	switch {
	case !hasForm(x):
		return api.ErrClause
	case slices.ContainsFunc(x.Names, isNoName) || x.Among != "" && !isName(x.Among):
		return api.ErrName
	case hasTwice(x.Names):
		return api.ErrTwice
	case x.Among != "" && !isListed(before, x.Among):
		return api.ErrAmong
	}
	return api.OK
}

// isCourt reports whether a court's text is valid.
func isCourt(c []api.Clause) bool {
	_, e := Check(c)
	return e == api.OK
}

// hasForm reports whether the kind of a clause exists and the clause has the form of its kind.
func hasForm(x api.Clause) bool {
	if x.Kind < api.ByRank || x.Kind > api.ByLot {
		return false
	}
	f := forms[x.Kind]
	return f.names == (len(x.Names) > 0) && len(x.Names) <= MaxNames &&
		x.N >= f.least && x.N <= f.most && (f.last || !x.Last) && !(f.forAll && x.Among != "")
}

// isListed reports whether one of some clauses ranks a rank.
func isListed(c []api.Clause, rank string) bool {
	return slices.ContainsFunc(c, func(x api.Clause) bool { return x.Kind == api.ByRank && slices.Contains(x.Names, rank) })
}

// hasTwice reports whether a name is in a list twice.
func hasTwice(names []string) bool {
	for i, name := range names {
		if slices.Contains(names[:i], name) {
			return true
		}
	}
	return false
}

// isName reports whether a text is a name.
func isName(s string) bool {
	const letters = "abcdefghijklmnopqrstuvwxyz"
	return s != "" && len(s) <= api.MaxName && strings.Trim(s, letters) == ""
}
