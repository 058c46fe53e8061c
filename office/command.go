package office

import (
	"slices"
	"strconv"
	"strings"

	"trestle/api"
)

// command says what is asked of the lines of a command, and what is done with them.
type command struct {
	form      string // what follows: for each word w, or n if it is a number; and + if more may follow like the last one
	needsPlan bool
	asks      bool // does it keep nothing?
	do        func(t *task)
}

// task is a line that is done: its command, a copy of the content, the words behind the command, and what is answered.
type task struct {
	command
	content
	line   string
	words  []string
	answer []string
}

// commands returns all commands by their words.
func commands() map[string]command {
	return map[string]command{
		"table":    {form: "w+", do: (*task).addTable},
		"guest":    {form: "w+", do: (*task).addGuest},
		"friend":   {form: "ww", do: (*task).addTie},
		"feud":     {form: "ww", do: (*task).addTie},
		"clause":   {form: "w+", do: (*task).addClause},
		"rule":     {form: "w+", do: (*task).addRule},
		"drop":     {form: "n", do: (*task).dropRule},
		"moves":    {form: "n", do: (*task).setMoves},
		"begin":    {do: (*task).begin},
		"clear":    {needsPlan: true, do: (*task).clear},
		"place":    {form: "wwn", needsPlan: true, do: (*task).place},
		"stand":    {form: "w", needsPlan: true, do: (*task).stand},
		"swap":     {form: "ww", needsPlan: true, do: (*task).swap},
		"turn":     {form: "wn", needsPlan: true, do: (*task).turn},
		"tidy":     {needsPlan: true, do: (*task).tidy},
		"solve":    {do: (*task).solve},
		"build":    {form: "n", do: (*task).build},
		"mend":     {needsPlan: true, do: (*task).mend},
		"late":     {form: "w+", needsPlan: true, do: (*task).late},
		"cancel":   {form: "w", needsPlan: true, do: (*task).change},
		"quarrel":  {form: "ww", needsPlan: true, do: (*task).change},
		"close":    {form: "wn", needsPlan: true, do: (*task).change},
		"demand":   {form: "w+", needsPlan: true, do: (*task).change},
		"count":    {asks: true, do: (*task).count},
		"cost":     {needsPlan: true, asks: true, do: (*task).cost},
		"prove":    {needsPlan: true, asks: true, do: (*task).prove},
		"core":     {asks: true, do: (*task).core},
		"why":      {form: "w", needsPlan: true, asks: true, do: (*task).why},
		"show":     {needsPlan: true, asks: true, do: (*task).show},
		"card":     {form: "w", needsPlan: true, asks: true, do: (*task).card},
		"chart":    {form: "w", needsPlan: true, asks: true, do: (*task).chart},
		"dishes":   {needsPlan: true, asks: true, do: (*task).dishes},
		"route":    {needsPlan: true, asks: true, do: (*task).route},
		"trips":    {form: "n", needsPlan: true, asks: true, do: (*task).trips},
		"order":    {asks: true, do: (*task).order},
		"classes":  {asks: true, do: (*task).classes},
		"circles":  {asks: true, do: (*task).circles},
		"camps":    {asks: true, do: (*task).camps},
		"chain":    {form: "ww", asks: true, do: (*task).chain},
		"evenings": {form: "nn+", asks: true, do: (*task).evenings},
		"state":    {asks: true, do: (*task).state},
	}
}

// read returns the task of a line, still without content.
func read(line string) (*task, api.Errno) {
	words := strings.Split(line, " ")
	c, known := commands()[words[0]]
	if !known || slices.Contains(words, "") || strings.Contains(line, "\n") {
		return nil, api.ErrCommand
	}
	return &task{command: c, line: line, words: words[1:]}, api.OK
}

// run does the task, or panics with its error.
func (t *task) run() {
	expect(t.hasPlan || !t.needsPlan, api.ErrNoPlan)
	expect(t.hasForm(), api.ErrForm)
	t.do(t)
}

// hasForm reports whether words follow as the command asks.
func (t *task) hasForm() bool {
	form, more := strings.CutSuffix(t.form, "+")
	if len(t.words) < len(form) || len(t.words) > len(form) && !more {
		return false
	}
	for i, word := range t.words {
		if _, isNumber := readNumber(word); form[min(i, len(form)-1)] == 'n' && !isNumber {
			return false
		}
	}
	return true
}

// number returns the number that stands as one of the words, where the form asks for one.
func (t *task) number(i int) int {
	n, _ := readNumber(t.words[i])
	return n
}

// rest returns the line without the command.
func (t *task) rest() string { return strings.Join(t.words, " ") }

// say adds words to the answer.
func (t *task) say(words ...string) { t.answer = append(t.answer, words...) }

// sayParts adds parts to the answer, with a word between two.
func (t *task) sayParts(between string, parts ...string) {
	t.say(strings.Join(parts, " "+between+" "))
}

// linesOf returns the lines of a text, without their line feeds.
func linesOf(text string) []string {
	return strings.Split(strings.TrimSuffix(text, "\n"), "\n")
}

// wordsOf returns the words of numbers.
func wordsOf(numbers []int) []string {
	var words []string
	for _, n := range numbers {
		words = append(words, strconv.Itoa(n))
	}
	return words
}

// readNumber returns the number that a word stands for: 1 to 9 digits, without leading zeros.
func readNumber(word string) (int, bool) {
	n, err := strconv.Atoi(word)
	if err != nil || n < 0 || len(word) > 9 || strconv.Itoa(n) != word {
		return 0, false
	}
	return n, true
}
