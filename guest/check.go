package guest

import (
	"strings"

	"trestle/api"
)

// Check reports whether a guest is valid.
func Check(g api.Guest) api.Errno {
	switch {
	case !isName(g.Name) || !isNameOrEmpty(g.Rank) || !isNameOrEmpty(g.Court) || !isNameOrEmpty(g.Diet):
		return api.ErrName
	case g.Since < 0 || g.Since > api.MaxYear:
		return api.ErrSince
	case g.Side < 0 || g.Side > 2:
		return api.ErrSide
	case !areTongues(g.Tongues):
		return api.ErrTongue
	}
	return api.OK
}

// CheckRoll reports whether a roll is valid: the index of the first guest or tie that is wrong, and its error.
func CheckRoll(r api.Roll) (int, api.Errno) {
	_, i, e := Load(r)
	return i, e
}

// isName reports whether a text is a name.
func isName(s string) bool {
	const letters = "abcdefghijklmnopqrstuvwxyz"
	return s != "" && len(s) <= api.MaxName && strings.TrimLeft(s, letters) == ""
}

// isNameOrEmpty reports whether a text is a name or empty.
func isNameOrEmpty(s string) bool { return s == "" || isName(s) }

// areTongues reports whether a guest may have a list of tongues.
func areTongues(list []string) bool {
	if len(list) > api.MaxTongue {
		return false
	}
	for i, tongue := range list {
		if !isName(tongue) || i > 0 && tongue <= list[i-1] {
			return false
		}
	}
	return true
}

// isKind reports whether there are ties of a kind.
func isKind(kind api.TieKind) bool { return kind == api.Friend || kind == api.Feud }
