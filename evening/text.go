package evening

import (
	"strconv"
	"strings"

	"trestle/api"
)

// Parse returns the schedule of n guests that a text describes.
func Parse(n int, text string) ([][][]int, int, api.Errno) {
	switch {
	case !isParty(n):
		return nil, 0, api.ErrSize
	case len(text) > api.MaxText:
		return nil, 0, api.ErrMany
	}
	var s [][][]int
	for text != "" {
		line, rest, ended := strings.Cut(text, "\n")
		tables, formed := readEvening(line)
		if !ended || !formed {
			return nil, len(s), api.ErrForm
		}
		if e := checkEvening(n, nil, tables); e != api.OK {
			return nil, len(s), e
		}
		if len(s) == MaxEvenings {
			return nil, len(s), api.ErrMany
		}
		s, text = append(s, tables), rest
	}
	return s, 0, api.OK
}

// Format returns the text of a schedule.
func Format(n int, s [][][]int) string {
	if !isSchedule(n, s) {
		return ""
	}
	var text strings.Builder
	for _, tables := range s {
		for t, table := range tables {
			if t > 0 {
				text.WriteString(" / ")
			}
			text.WriteString(writeTable(table))
		}
		text.WriteString("\n")
	}
	return text.String()
}

// readEvening returns the tables of which a line tells, if the line has the form for that. A / that does not stand between two
// tables remains as a word that is no number.
func readEvening(line string) ([][]int, bool) {
	var tables [][]int
	for _, part := range strings.Split(line, " / ") {
		table, ok := readTable(part)
		if !ok {
			return nil, false
		}
		tables = append(tables, table)
	}
	return tables, true
}

// readTable returns the guests whose numbers the words of a part of a line are, if all of them are numbers.
func readTable(part string) ([]int, bool) {
	var table []int
	for _, word := range strings.Split(part, " ") {
		g, ok := readNumber(word)
		if !ok {
			return nil, false
		}
		table = append(table, g)
	}
	return table, true
}

// writeTable returns the numbers of the guests of a table.
func writeTable(table []int) string {
	words := make([]string, len(table))
	for i, g := range table {
		words[i] = strconv.Itoa(g)
	}
	return strings.Join(words, " ")
}

// readNumber returns the number that a word stands for: 1 to 9 digits, without leading zeros.
func readNumber(word string) (int, bool) {
	n, err := strconv.Atoi(word)
	if err != nil || n < 0 || len(word) > 9 || strconv.Itoa(n) != word {
		return 0, false
	}
	return n, true
}
