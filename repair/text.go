package repair

import (
	"slices"
	"strconv"
	"strings"

	"trestle/api"
	"trestle/guest"
	"trestle/rule"
)

// Parse reads changes: the changes, or the index of the first wrong line and its error.
func Parse(text string) ([]api.Change, int, api.Errno) {
	if len(text) > api.MaxText {
		return nil, 0, api.ErrMany
	}
	var l []api.Change
	for text != "" {
		line, rest, ended := strings.Cut(text, "\n")
		if !ended {
			return nil, len(l), api.ErrForm
		}
		// Without a copy the names would keep the memory of the whole text.
		c, e := readLine(strings.Clone(line))
		switch {
		case e != api.OK:
			return nil, len(l), e
		case len(l) == MaxChanges:
			return nil, len(l), api.ErrMany
		}
		l, text = append(l, c), rest
	}
	return l, 0, api.OK
}

// Format writes changes.
func Format(l []api.Change) string {
	if len(l) > MaxChanges {
		return ""
	}
	var s strings.Builder
	for _, c := range l {
		line := writeLine(c)
		if said, e := readLine(line); e != api.OK || !same(said, c) {
			return ""
		}
		s.WriteString(line + "\n")
	}
	return s.String()
}

// readLine returns the change that a line tells of, or the line's error.
func readLine(line string) (api.Change, api.Errno) {
	words := strings.Split(line, " ")
	if slices.Contains(words, "") {
		return api.Change{}, api.ErrForm
	}
	for number, k := range kinds() {
		if k.word != words[0] {
			continue
		}
		c, e := k.read(words[1:])
		if e != api.OK {
			return api.Change{}, e
		}
		c.Kind = api.ChangeKind(number)
		return c, api.OK
	}
	return api.Change{}, api.ErrForm
}

// writeLine returns the line of a change, without its line feed. If no line says what the change is, it returns some line that
// says something else, or nothing.
func writeLine(c api.Change) string {
	k, ok := kindOf(c)
	if !ok {
		return ""
	}
	return k.word + " " + k.write(c)
}

func readLate(words []string) (api.Change, api.Errno) {
	// Package guest reads ties, too.
	if len(words) < 2 || words[1] != "guest" {
		return api.Change{}, api.ErrForm
	}
	n, ok := readNumber(words[0])
	if !ok {
		return api.Change{}, api.ErrForm
	}
	roll, _, e := guest.Parse(strings.Join(words[1:], " ") + "\n")
	if e != api.OK {
		return api.Change{}, e
	}
	return api.Change{Guest: roll.Guests[0], N: n}, api.OK
}

func readCancel(words []string) (api.Change, api.Errno) {
	if len(words) != 1 {
		return api.Change{}, api.ErrForm
	}
	return api.Change{A: words[0]}, checkNames(words)
}

func readQuarrel(words []string) (api.Change, api.Errno) {
	if len(words) != 2 {
		return api.Change{}, api.ErrForm
	}
	return api.Change{A: words[0], B: words[1]}, checkNames(words)
}

func readClose(words []string) (api.Change, api.Errno) {
	if len(words) != 2 {
		return api.Change{}, api.ErrForm
	}
	n, ok := readNumber(words[1])
	if !ok {
		return api.Change{}, api.ErrForm
	}
	return api.Change{Table: words[0], N: n}, checkNames(words[:1])
}

func readDemand(words []string) (api.Change, api.Errno) {
	rules, _, e := rule.Parse(strings.Join(words, " ") + "\n")
	if e != api.OK {
		return api.Change{}, e
	}
	return api.Change{Rule: rules[0]}, api.OK
}

func writeLate(c api.Change) string {
	line := guest.Format(api.Roll{Guests: []api.Guest{c.Guest}})
	return strconv.Itoa(c.N) + " " + strings.TrimSuffix(line, "\n")
}

func writeCancel(c api.Change) string { return c.A }

func writeQuarrel(c api.Change) string { return c.A + " " + c.B }

func writeClose(c api.Change) string { return c.Table + " " + strconv.Itoa(c.N) }

func writeDemand(c api.Change) string {
	return strings.TrimSuffix(rule.Format([]api.Rule{c.Rule}), "\n")
}

// checkNames reports whether words are names: whether guests may have them.
func checkNames(words []string) api.Errno {
	for _, word := range words {
		if guest.Check(api.Guest{Name: word}) != api.OK {
			return api.ErrName
		}
	}
	return api.OK
}

// same reports whether two changes are equal, in all fields.
func same(c, d api.Change) bool {
	return c.Kind == d.Kind && c.A == d.A && c.B == d.B && c.Table == d.Table && c.N == d.N && c.Rule == d.Rule && sameGuest(c.Guest, d.Guest)
}

// sameGuest reports whether two guests are equal.
func sameGuest(g, h api.Guest) bool {
	names := g.Name == h.Name && g.Rank == h.Rank && g.Court == h.Court && g.Diet == h.Diet
	numbers := g.Since == h.Since && g.Side == h.Side
	return names && numbers && g.Host == h.Host && g.Access == h.Access && slices.Equal(g.Tongues, h.Tongues)
}

// readNumber returns the number that a word stands for: 1 to 9 digits, without leading zeros.
func readNumber(word string) (int, bool) {
	n, err := strconv.Atoi(word)
	if err != nil || n < 0 || len(word) > 9 || strconv.Itoa(n) != word {
		return 0, false
	}
	return n, true
}
