package office_test

import (
	"slices"
	"strings"
	"testing"

	"trestle/api"
	"trestle/office"
)

// P12.1: lines that do not consist of words, or whose first word is no command.
func TestNoCommands(t *testing.T) {
	for _, line := range []string{
		"", " ", "  ", "\n", " begin", "begin ", "begin  ", "begin\n", "\nbegin", "begin\nbegin", "begin \n", "drop  0", "drop 0 ", "table  r row 1 0 0 0", "guest ann - - 0 0 - - ", "state\n", "card ann\nbob",
		"Begin", "BEGIN", "begins", "begi", "ok", "error", "-", "0", "x begin", "late\n", "tie ann bob", "seat ann r 0", "among duke elder", "rank duke", "hard peace -", "begin\t", "\tbegin", "begin\r", "begin\x00", "\x00", "\xff", "bégin",
	} {
		for _, o := range []*office.Office{office.New(), dinner(t)} {
			text, log := o.Text(), o.Log()
			if answer, e := o.Do(line); answer != "" || e != api.ErrCommand || o.Text() != text || o.Log() != log {
				t.Errorf("Do(%q): %q, %d", line, answer, e)
			}
		}
	}
}

// example returns a line that has the form of a row's one, as far as the table of commands says.
func example(row string) string {
	words := strings.Fields(strings.Split(row, "|")[0])
	for i, word := range words {
		switch word {
		case "N", "..":
			words[i] = "0"
		case "NAME", "TABLE", "WORDS":
			words[i] = "guest"
		}
	}
	return strings.Join(words, " ")
}

// P12.1: a command that needs a plan is ErrNoPlan without one, whatever its words; others are not.
func TestNoPlan(t *testing.T) {
	for _, row := range commandRows() {
		needs := strings.Split(row, "|")[1] == "yes"
		line := example(row)
		for _, line := range []string{line, line + " x", line + " 0 0 0 0 0", strings.Fields(line)[0]} {
			for _, o := range []*office.Office{office.New(), dinner(t)} {
				answer, e := o.Do(line)
				if (e == api.ErrNoPlan) != needs || needs && (answer != "" || strings.Contains(o.Text(), "begin")) {
					t.Errorf("Do(%q): %q, %d", line, answer, e)
				}
			}
		}
	}
}

// P12.1: words that do not follow as the table of commands says.
func TestForms(t *testing.T) {
	for _, row := range commandRows() {
		form := strings.Fields(strings.Split(row, "|")[0])
		for _, words := range wrongWords(form, strings.Split(example(row), " ")) {
			line := strings.Join(words, " ")
			o := dinner(t)
			o.Do("begin")
			text, log := o.Text(), o.Log()
			if answer, e := o.Do(line); answer != "" || e != api.ErrForm || o.Text() != text || o.Log() != log {
				t.Errorf("Do(%q): %q, %d", line, answer, e)
			}
		}
	}
}

// wrongWords returns words that do not have a form: words that do, with some left out, added or changed.
func wrongWords(form, words []string) [][]string {
	var wrong [][]string
	least, last := len(form), form[len(form)-1]
	if last == ".." {
		least--
	}
	for n := 1; n < least; n++ {
		wrong = append(wrong, words[:n])
	}
	if last != "WORDS" {
		wrong = append(wrong, slices.Concat(words, []string{"guest"}), slices.Concat(words, []string{"guest", "x"}))
	}
	if last != "WORDS" && last != ".." {
		wrong = append(wrong, slices.Concat(words, []string{"0"}))
	}
	for i, word := range form {
		if word != "N" && word != ".." {
			continue
		}
		for _, no := range []string{"x", "-", "-0", "-1", "+1", "00", "01", "0x1", "1.0", "1_0", "1000000000", "0000000001", "99999999999999999999", "١"} {
			changed := slices.Clone(words)
			changed[i] = no
			wrong = append(wrong, changed)
		}
	}
	return wrong
}

// P12.1: words of a right form, and the greatest number, are no ErrForm.
func TestRightForms(t *testing.T) {
	for _, row := range commandRows() {
		if strings.Contains(row, "WORDS") {
			continue
		}
		line := example(row)
		for _, line := range []string{line, strings.ReplaceAll(line, " 0", " 999999999")} {
			o := dinner(t)
			o.Do("begin")
			if answer, e := o.Do(line); e == api.ErrForm || e == api.ErrCommand {
				t.Errorf("Do(%q): %q, %d", line, answer, e)
			}
		}
	}
}

// P12.1: lines of other layers have their own ErrForm.
func TestOwnForms(t *testing.T) {
	o := dinner(t)
	o.Do("begin")
	for _, line := range []string{
		"table x", "table x row 1 0 0", "table x oval 4 0 0 0", "table x row one 0 0 0", "table x row 1 0 0 0 x", "table - row 01 0 0 0",
		"guest eve", "guest eve - - 0 0 -", "guest eve - - x 0 - -", "guest eve - - 0 0 - x", "guest eve - - 00 0 - -",
		"clause moon", "clause clause elder", "clause rank", "clause lot", "clause lot 01", "clause elder first", "clause among duke", "clause side 1",
		"rule hard", "rule peace -", "rule rule hard peace -", "rule hard peace", "rule hard moon -", "rule weigh peace -", "rule weigh 01 peace -", "rule hard fill - x", "rule hard beside ann",
		"late eve", "late guest", "late guest eve", "late guest eve - - 0 0 -", "late friend ann bob", "late feud ann bob", "late 0 guest eve - - 0 0 - -", "late late guest eve - - 0 0 - -", "late Guest eve - - 0 0 - -",
		"demand hard", "demand peace -", "demand rule hard peace -", "demand hard seat ann r x",
	} {
		text, log := o.Text(), o.Log()
		if answer, e := o.Do(line); answer != "" || e != api.ErrForm || o.Text() != text || o.Log() != log {
			t.Errorf("Do(%q): %q, %d", line, answer, e)
		}
	}
}

// R3: what is no office, or what no function of the package returned.
func TestNoOffice(t *testing.T) {
	copied := *dinner(t)
	for i, o := range []*office.Office{nil, {}, new(office.Office), &copied} {
		for _, line := range []string{"begin", "state", "", "moon", "clear"} {
			if answer, e := o.Do(line); answer != "" || e != api.ErrNil {
				t.Errorf("%d: Do(%q): %q, %d", i, line, answer, e)
			}
		}
		if s := o.Run("begin\nstate\n") + o.Log() + o.Text(); s != "" {
			t.Errorf("%d: %q", i, s)
		}
		if p := o.Problem(); !sameProblem(p, api.Problem{}) {
			t.Errorf("%d: problem %v", i, p)
		}
		if x, ok := o.Plan(); x != nil || ok {
			t.Errorf("%d: plan %v", i, x)
		}
		if l, e := o.Why("ann"); len(l) != 0 || e != api.ErrNil {
			t.Errorf("%d: Why: %v, %d", i, l, e)
		}
	}
}
