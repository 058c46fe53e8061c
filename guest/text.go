package guest

import (
	"iter"
	"slices"
	"strconv"
	"strings"

	"trestle/api"
)

// Parse returns the roll that a text describes, or the index of the first wrong line and its error.
func Parse(text string) (api.Roll, int, api.Errno) {
	if len(text) > api.MaxText {
		return api.Roll{}, 0, api.ErrMany
	}
	b := New()
	for i, words := range lines(text) {
		if e := b.addLine(words); e != api.OK {
			return api.Roll{}, i, e
		}
	}
	return b.Roll(), 0, api.OK
}

// Format returns the text of a roll.
func Format(r api.Roll) string {
	if _, e := CheckRoll(r); e != api.OK {
		return ""
	}
	var s strings.Builder
	for _, g := range r.Guests {
		s.WriteString(strings.Join(guestWords(g), " ") + "\n")
	}
	for _, t := range r.Ties {
		s.WriteString(kindWord(t.Kind) + " " + t.A + " " + t.B + "\n")
	}
	return s.String()
}

// lines yields the lines of a text as their indices and words. A line without its end, or that does not consist of words,
// has no words.
func lines(text string) iter.Seq2[int, []string] {
	return func(yield func(int, []string) bool) {
		for i := 0; text != ""; i++ {
			line, rest, ended := strings.Cut(text, "\n")
			// Without a copy the names would keep the memory of the whole text.
			words := strings.Split(strings.Clone(line), " ")
			if !ended || slices.Contains(words, "") {
				words = nil
			}
			if !yield(i, words) {
				return
			}
			text = rest
		}
	}
}

// addLine adds what a line says.
func (b *Book) addLine(words []string) api.Errno {
	if len(words) >= 8 && words[0] == "guest" {
		g, ok := readGuest(words)
		if !ok {
			return api.ErrForm
		}
		return b.Add(g)
	}
	if len(words) != 3 {
		return api.ErrForm
	}
	for _, kind := range []api.TieKind{api.Friend, api.Feud} {
		if words[0] == kindWord(kind) {
			return b.Tie(words[1], words[2], kind)
		}
	}
	return api.ErrForm
}

// readGuest returns the guest that the words of a line tell of, if its numbers and flags have their form.
func readGuest(words []string) (api.Guest, bool) {
	since, isSince := readNumber(words[4])
	side, isSide := readNumber(words[5])
	flags := words[7]
	if !isSince || !isSide || !slices.Contains([]string{"-", "h", "a", "ha"}, flags) {
		return api.Guest{}, false
	}
	return api.Guest{
		Name:    words[1],
		Rank:    readEmpty(words[2]),
		Court:   readEmpty(words[3]),
		Since:   since,
		Side:    side,
		Diet:    readEmpty(words[6]),
		Host:    strings.Contains(flags, "h"),
		Access:  strings.Contains(flags, "a"),
		Tongues: words[8:],
	}, true
}

// guestWords returns the words that tell of a guest.
func guestWords(g api.Guest) []string {
	flags := ""
	if g.Host {
		flags += "h"
	}
	if g.Access {
		flags += "a"
	}
	words := []string{"guest", g.Name, writeEmpty(g.Rank), writeEmpty(g.Court), strconv.Itoa(g.Since), strconv.Itoa(g.Side), writeEmpty(g.Diet), writeEmpty(flags)}
	return append(words, g.Tongues...)
}

// kindWord returns the word for a kind of ties.
func kindWord(kind api.TieKind) string {
	if kind == api.Friend {
		return "friend"
	}
	return "feud"
}

// readEmpty returns the name that a word stands for, if it may be empty.
func readEmpty(word string) string {
	if word == "-" {
		return ""
	}
	return word
}

// writeEmpty returns the word for a name that may be empty.
func writeEmpty(name string) string {
	if name == "" {
		return "-"
	}
	return name
}

// readNumber returns the number that a word stands for: 1 to 9 digits, without leading zeros.
func readNumber(word string) (int, bool) {
	n, err := strconv.Atoi(word)
	if err != nil || n < 0 || len(word) > 9 || strconv.Itoa(n) != word {
		return 0, false
	}
	return n, true
}
