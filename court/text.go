package court

import (
	"slices"
	"strconv"
	"strings"

	"trestle/api"
)

// Parse returns the clauses that a text describes, or the index of the first line that cannot be added, and its error.
func Parse(text string) (c []api.Clause, line int, e api.Errno) {
	if len(text) > api.MaxText {
		return nil, 0, api.ErrMany
	}
	defer func() {
		if failed, ok := recover().(api.Errno); ok {
			c, e = nil, failed
		}
	}()
	for text != "" {
		first, rest, ended := strings.Cut(text, "\n")
		expect(ended, api.ErrForm)
		x := readClause(first)
		wrong := checkNext(c, x)
		expect(wrong == api.OK, wrong)
		expect(len(c) < api.MaxClause, api.ErrMany)
		c, text = append(c, x), rest
		line++
	}
	return c, 0, api.OK
}

// Format returns the text of clauses.
func Format(c []api.Clause) string {
	if !isCourt(c) {
		return ""
	}
	var s strings.Builder
	for _, x := range c {
		s.WriteString(strings.Join(clauseWords(x), " ") + "\n")
	}
	return s.String()
}

// expect ends the reading of a text with an error, unless what is expected holds. Parse recovers the panic.
func expect(holds bool, e api.Errno) {
	if !holds {
		panic(e)
	}
}

// words are those words of a line that are still to be read.
type words []string

// next reads a word.
func (w *words) next() string {
	expect(len(*w) > 0, api.ErrForm)
	word := (*w)[0]
	*w = (*w)[1:]
	return word
}

// rest reads the words that are left, one at least.
func (w *words) rest() []string {
	list := []string{w.next()}
	list = append(list, *w...)
	*w = nil
	return list
}

// number reads a number: 1 to 9 digits, without leading zeros.
func (w *words) number() int {
	word := w.next()
	n, err := strconv.Atoi(word)
	expect(err == nil && n >= 0 && len(word) <= 9 && strconv.Itoa(n) == word, api.ErrForm)
	return n
}

// last reads whether those who are named go last.
func (w *words) last() bool {
	word := w.next()
	expect(word == "first" || word == "last", api.ErrForm)
	return word == "last"
}

// readClause reads a line.
func readClause(line string) api.Clause {
	// Without a copy the names would keep the memory of the whole text.
	left := words(strings.Split(strings.Clone(line), " "))
	expect(!slices.Contains(left, ""), api.ErrForm)
	var x api.Clause
	word := left.next()
	if word == "among" {
		x.Among = left.next()
		word = left.next()
	}
	x.Kind = kindOf(word)
	f := forms[x.Kind]
	if f.most > 0 {
		x.N = left.number()
	}
	if f.last {
		x.Last = left.last()
	}
	if f.names {
		x.Names = left.rest()
	}
	expect(len(left) == 0, api.ErrForm)
	return x
}

// kindOf returns the kind whose clauses begin with a word.
func kindOf(word string) api.ClauseKind {
	for kind := api.ByRank; kind <= api.ByLot; kind++ {
		if forms[kind].word == word {
			return kind
		}
	}
	panic(api.ErrForm)
}

// clauseWords returns the words of a valid clause.
func clauseWords(x api.Clause) []string {
	var list []string
	if x.Among != "" {
		list = append(list, "among", x.Among)
	}
	f := forms[x.Kind]
	list = append(list, f.word)
	if f.most > 0 {
		list = append(list, strconv.Itoa(x.N))
	}
	switch {
	case f.last && x.Last:
		list = append(list, "last")
	case f.last:
		list = append(list, "first")
	}
	return append(list, x.Names...)
}
