package hall

import (
	"strconv"
	"strings"

	"trestle/api"
)

// Parse returns the hall that a text describes.
func Parse(text string) ([]api.Table, int, api.Errno) {
	if len(text) > api.MaxText {
		return nil, 0, api.ErrMany
	}
	var l []api.Table
	line, failed := 0, api.OK
reading:
	for text != "" {
		first, rest, ended := strings.Cut(text, "\n")
		t, formed := readTable(first)
		if !ended || !formed {
			failed = api.ErrForm
			break reading
		}
		switch e := checkNext(l, t); {
		case e != api.OK:
			failed = e
			break reading
		case len(l) == api.MaxTables:
			failed = api.ErrMany
			break reading
		}
		l, text = append(l, t), rest
		line++
	}
	if failed != api.OK {
		return nil, line, failed
	}
	return l, 0, api.OK
}

// Format returns the text of a hall.
func Format(l []api.Table) string {
	if !isHall(l) {
		return ""
	}
	var s strings.Builder
	for _, t := range l {
		s.WriteString("table " + t.Name + " " + layoutAt(t).word)
		for _, n := range append([]int{t.A, t.B, t.X, t.Y}, t.Open...) {
			s.WriteString(" " + strconv.Itoa(n))
		}
		s.WriteString("\n")
	}
	return s.String()
}

// readTable returns the table that a line tells of, if the line has the form of a table.
func readTable(line string) (api.Table, bool) {
	words := strings.Split(line, " ")
	if len(words) < 7 || words[0] != "table" || words[1] == "" {
		return api.Table{}, false
	}
	shape, known := shapeOf(words[2])
	numbers, ok := readNumbers(words[3:])
	if !known || !ok {
		return api.Table{}, false
	}
	t := api.Table{Shape: shape, A: numbers[0], B: numbers[1], X: numbers[2], Y: numbers[3]}
	// Without a copy the name would keep the memory of the whole text.
	t.Name = strings.Clone(words[1])
	t.Open = append(t.Open, numbers[4:]...)
	return t, true
}

// readNumbers returns the numbers that words stand for, if all of them are numbers.
func readNumbers(words []string) ([]int, bool) {
	list := make([]int, len(words))
	for i, w := range words {
		n, ok := readNumber(w)
		if !ok {
			return nil, false
		}
		list[i] = n
	}
	return list, true
}

// readNumber returns the number that a word stands for: 1 to 9 digits, without leading zeros.
func readNumber(word string) (int, bool) {
	if len(word) < 1 || len(word) > 9 || word[0] == '0' && len(word) > 1 {
		return 0, false
	}
	n := 0
	for i := range len(word) {
		if word[i] < '0' || word[i] > '9' {
			return 0, false
		}
		n = 10*n + int(word[i]-'0')
	}
	return n, true
}
