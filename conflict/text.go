package conflict

import (
	"slices"
	"strconv"
	"strings"

	"trestle/api"
	"trestle/rule"
)

// Describe returns the text of a set of hard rules.
func Describe(p api.Problem, rules []int) string {
	if !isSet(p, rules) {
		return ""
	}
	var s strings.Builder
	for _, i := range rules {
		s.WriteString(lineOf(p, i))
	}
	return s.String()
}

// ParseCore returns the set of hard rules that a text describes.
func ParseCore(p api.Problem, text string) ([]int, int, api.Errno) {
	if _, e := rule.Check(p); e != api.OK {
		return nil, 0, e
	}
	if len(text) > api.MaxText {
		return nil, 0, api.ErrMany
	}
	hard := rule.Hard(p)
	var rules []int
	for text != "" {
		line, rest, ended := strings.Cut(text, "\n")
		i, ok := readIndex(line)
		switch {
		case !ended || !ok:
			return nil, len(rules), api.ErrForm
		case !slices.Contains(hard, i) || line+"\n" != lineOf(p, i):
			return nil, len(rules), api.ErrUnknown
		case len(rules) > 0 && i <= rules[len(rules)-1]:
			return nil, len(rules), api.ErrTwice
		}
		rules, text = append(rules, i), rest
	}
	return rules, 0, api.OK
}

// lineOf returns the line of a rule of a valid problem, with its line feed.
func lineOf(p api.Problem, i int) string {
	return "rule " + strconv.Itoa(i) + " " + rule.Format(p.Rules[i:i+1])
}

// readIndex returns the index of the rule of which a line tells, if the line has the form for that.
func readIndex(line string) (int, bool) {
	words := strings.Split(line, " ")
	if len(words) < 3 || words[0] != "rule" || slices.Contains(words, "") {
		return 0, false
	}
	return readNumber(words[1])
}

// readNumber returns the number that a word stands for: 1 to 9 digits, without leading zeros.
func readNumber(word string) (int, bool) {
	n, err := strconv.Atoi(word)
	if err != nil || n < 0 || len(word) > 9 || strconv.Itoa(n) != word {
		return 0, false
	}
	return n, true
}
