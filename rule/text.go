package rule

import (
	"slices"
	"strconv"
	"strings"

	"trestle/api"
)

// Parse reads rules: the rules, or the index of the first wrong line and its error.
func Parse(text string) ([]api.Rule, int, api.Errno) {
	if len(text) > api.MaxText {
		return nil, 0, api.ErrMany
	}
	all := kinds()
	var l []api.Rule
	for text != "" {
		line, rest, ended := strings.Cut(text, "\n")
		if !ended {
			return nil, len(l), api.ErrForm
		}
		// Without a copy the names would keep the memory of the whole text.
		r, e := readRule(all, strings.Clone(line))
		switch {
		case e != api.OK:
			return nil, len(l), e
		case len(l) == api.MaxRules:
			return nil, len(l), api.ErrMany
		}
		l, text = append(l, r), rest
	}
	return l, 0, api.OK
}

// Format writes rules.
func Format(l []api.Rule) string {
	if len(l) > api.MaxRules {
		return ""
	}
	all := kinds()
	var s strings.Builder
	for _, r := range l {
		line := all[r.Kind].writeRule(r)
		if said, e := readRule(all, line); e != api.OK || said != r {
			return ""
		}
		s.WriteString(line + "\n")
	}
	return s.String()
}

// readRule returns the rule that a line tells of, or the line's error.
func readRule(all map[api.RuleKind]kind, line string) (api.Rule, api.Errno) {
	words := strings.Split(line, " ")
	r, ok := readForm(all, words)
	k := all[r.Kind]
	switch {
	case !ok || slices.Contains(words, ""):
		return api.Rule{}, api.ErrForm
	case r.Weight > api.MaxWeight || r.Weight == 0 && words[0] == "weigh":
		return api.Rule{}, api.ErrWeight
	case !k.readNames(&r):
		return api.Rule{}, api.ErrName
	}
	return r, api.OK
}

// readForm returns the rule that the words of a line tell of, if they have the form of a rule. Its names are still words.
func readForm(all map[api.RuleKind]kind, words []string) (api.Rule, bool) {
	var r api.Rule
	switch {
	case words[0] == "hard":
		words = words[1:]
	case words[0] == "weigh" && len(words) > 1:
		n, ok := readNumber(words[1])
		if !ok {
			return api.Rule{}, false
		}
		r.Weight, words = n, words[2:]
	default:
		return api.Rule{}, false
	}
	if len(words) == 0 {
		return api.Rule{}, false
	}
	for kind, k := range all {
		if k.word == words[0] {
			r.Kind = kind
			return r, k.readFields(words[1:], &r)
		}
	}
	return api.Rule{}, false
}

// readFields reads the fields that the kind uses from as many words.
func (k kind) readFields(words []string, r *api.Rule) bool {
	for _, s := range k.slots(r) {
		if s.holds == nothing {
			continue
		}
		if len(words) == 0 {
			return false
		}
		*s.name, words = words[0], words[1:]
	}
	if k.n == nothing {
		return len(words) == 0
	}
	if len(words) != 1 {
		return false
	}
	var ok bool
	r.N, ok = readNumber(words[0])
	return ok
}

// readNames turns the words in the fields that the kind uses into names.
func (k kind) readNames(r *api.Rule) bool {
	for _, s := range k.slots(r) {
		switch {
		case s.holds.mayBeEmpty() && *s.name == "-":
			*s.name = ""
		case s.holds != nothing && !isName(*s.name):
			return false
		}
	}
	return true
}

// writeRule returns the line of a rule. If no line says what the rule is, it returns some line that says something else, or
// nothing.
func (k kind) writeRule(r api.Rule) string {
	words := []string{"hard"}
	if r.Weight != 0 {
		words = []string{"weigh", strconv.Itoa(r.Weight)}
	}
	words = append(words, k.word)
	for _, s := range k.slots(&r) {
		switch {
		case s.holds.mayBeEmpty() && *s.name == "":
			words = append(words, "-")
		case s.holds != nothing:
			words = append(words, *s.name)
		}
	}
	if k.n != nothing {
		words = append(words, strconv.Itoa(r.N))
	}
	return strings.Join(words, " ")
}

// readNumber returns the number that a word stands for: 1 to 9 digits, without leading zeros.
func readNumber(word string) (int, bool) {
	n, err := strconv.Atoi(word)
	if err != nil || n < 0 || len(word) > 9 || strconv.Itoa(n) != word {
		return 0, false
	}
	return n, true
}
