package plan

import (
	"slices"
	"strconv"
	"strings"

	"trestle/api"
	"trestle/hall"
	"trestle/rule"
)

// Parse returns the partial plan that a text describes.
func Parse(p api.Problem, text string) ([]int, int, api.Errno) {
	if _, e := rule.Check(p); e != api.OK {
		return nil, 0, e
	}
	if len(text) > api.MaxText {
		return nil, 0, api.ErrMany
	}
	part := slices.Repeat([]int{-1}, len(p.Guests))
	for i := 0; text != ""; i++ {
		line, rest, ended := strings.Cut(text, "\n")
		if !ended {
			return nil, i, api.ErrForm
		}
		g, seat, e := readLine(p, part, line)
		if e != api.OK {
			return nil, i, e
		}
		part[g], text = seat, rest
	}
	return part, 0, api.OK
}

// readLine returns the guest whom a line adds to a partial plan, and the guest's seat, or the line's error.
func readLine(p api.Problem, part []int, line string) (g, seat int, e api.Errno) {
	words := strings.Split(line, " ")
	if len(words) != 4 || words[0] != "seat" || slices.Contains(words, "") {
		return 0, 0, api.ErrForm
	}
	k, ok := readNumber(words[3])
	if !ok {
		return 0, 0, api.ErrForm
	}
	g = slices.IndexFunc(p.Guests, func(g api.Guest) bool { return g.Name == words[1] })
	t, found := hall.Find(p.Tables, words[2])
	if g < 0 || !found {
		return 0, 0, api.ErrUnknown
	}
	seat = hall.First(p.Tables, t) + k
	_, taken := sitting(part)(seat)
	switch {
	case k >= hall.Seats(p.Tables[t]):
		return 0, 0, api.ErrSeat
	case part[g] != -1:
		return 0, 0, api.ErrTwice
	case taken:
		return 0, 0, api.ErrTaken
	}
	return g, seat, api.OK
}

// Format returns the text of a partial plan.
func Format(p api.Problem, part []int) string {
	if !isPart(p, part) {
		return ""
	}
	var s strings.Builder
	for g, seat := range part {
		if t, k, ok := hall.Where(p.Tables, seat); ok {
			words := []string{"seat", p.Guests[g].Name, p.Tables[t].Name, strconv.Itoa(k)}
			s.WriteString(strings.Join(words, " ") + "\n")
		}
	}
	return s.String()
}

// readNumber returns the number that a word stands for: 1 to 9 digits, without leading zeros.
func readNumber(word string) (int, bool) {
	n, err := strconv.Atoi(word)
	if err != nil || n < 0 || len(word) > 9 || strconv.Itoa(n) != word {
		return 0, false
	}
	return n, true
}
