package office_test

import (
	"fmt"
	"math/rand"
	"slices"
	"strings"
	"testing"

	"trestle/api"
	"trestle/office"
)

// P12.1, P12.3, P12.4, P12.5: random lines, against a model that keeps lines. After each of them the text and the log are those of
// the model.
func TestModel(t *testing.T) {
	r := rand.New(rand.NewSource(1))
	done, errors := map[string]int{}, map[api.Errno]int{}
	for range 400 {
		o, d := office.New(), newDesk()
		lines := start(r)
		for range 60 {
			lines = append(lines, anyLine(r))
		}
		for i, line := range lines {
			answer, e := o.Do(line)
			want, f := d.do(line)
			if answer != want || e != f {
				t.Fatalf("%q: %q, %d, not %q, %d", lines[:i+1], answer, e, want, f)
			}
			if text := o.Text(); text != d.text() || o.Log() != d.log {
				t.Fatalf("%q: text %q, log %q, not %q and %q", lines[:i+1], text, o.Log(), d.text(), d.log)
			}
			errors[e]++
			if e == api.OK {
				word, _, _ := strings.Cut(line, " ")
				done[word]++
			}
		}
		p, part := d.problem()
		if x, ok := o.Plan(); ok != (d.seats != nil) || !slices.Equal(x, part) || !sameProblem(o.Problem(), p) {
			t.Fatalf("%q: %v and %v, not %v and %v", lines, o.Problem(), x, p, part)
		}
	}
	for _, row := range commandRows() {
		word, _, _ := strings.Cut(strings.Split(row, "|")[0], " ")
		if done[word] < 20 {
			t.Errorf("%s was done %d times", word, done[word])
		}
	}
	for _, e := range []api.Errno{2, 3, 4, 5, 6, 8, 9, 10, 21, 23, 30, 31, 32, 41, 42, 51, 52, 70, 82, 90, 110, 120, 121} {
		if errors[e] == 0 {
			t.Errorf("no error %d", e)
		}
	}
}

// sameProblem reports whether two problems are equal. Nil lists are empty lists.
func sameProblem(p, q api.Problem) bool { return fmt.Sprintf("%+v", p) == fmt.Sprintf("%+v", q) }

// P12.2: the chapter's first example.
func TestScript(t *testing.T) {
	const script = `table r round 4 0 0 0
guest anna - - 0 0 - h
guest boris - - 0 0 - -
guest carl - - 0 0 - -
rule hard beside anna boris
rule weigh 3 across anna carl
cost
solve
prove
show
why boris
quarrel anna boris
cancel carl
state
`
	const answers = `tables 1
guests 1
guests 2
guests 3
rules 1
rules 2
error 121
cost 0
best
anna r 0 / boris r 1 / carl r 2
r 0 more 3 / r 2 hard 0 / r 3 same
error 9
moved 0 cost 0
tables 1 guests 2 ties 0 clauses 0 rules 1 seated 2
`
	if got := office.New().Run(script); got != answers {
		t.Errorf("%q", got)
	}
	if got := office.New().Run(strings.TrimSuffix(script, "\n")); got != answers {
		t.Errorf("without the last line feed: %q", got)
	}
}

// P12.2: what is a line of a script, and what is answered to it.
func TestRun(t *testing.T) {
	for _, x := range []struct{ script, answers string }{
		{"", ""},
		{"\n", "error 120\n"},
		{"\n\n", "error 120\nerror 120\n"},
		{"state", "tables 0 guests 0 ties 0 clauses 0 rules 0 no plan\n"},
		{"begin\n", "ok\n"},
		{"begin\nbegin", "ok\nok\n"},
		{"begin\n\nbegin", "ok\nerror 120\nok\n"},
		{"begin\n ", "ok\nerror 120\n"},
		{"begin\r\nstate x\ndrop 0\nclear\n", "error 120\nerror 3\nerror 6\nerror 121\n"},
		// An answer may have no bytes.
		{"begin\nshow\nclasses\nstate\n", "ok\n\n\ntables 0 guests 0 ties 0 clauses 0 rules 0 seated 0\n"},
		{"table \xff row 1 0 0 0\n\xff", "error 4\nerror 120\n"},
	} {
		if got := office.New().Run(x.script); got != x.answers {
			t.Errorf("Run(%q): %q, not %q", x.script, got, x.answers)
		}
	}
}

// P12.2: Run does what Do does, line by line.
func TestRunAndDo(t *testing.T) {
	r := rand.New(rand.NewSource(2))
	for range 60 {
		lines := start(r)
		for range 40 {
			lines = append(lines, strings.TrimSuffix(anyLine(r), "\n"))
		}
		one, other, want := office.New(), office.New(), ""
		script := strings.Join(lines, "\n")
		for line := range strings.SplitSeq(script, "\n") {
			answer, e := one.Do(line)
			if e != api.OK {
				answer = fmt.Sprint("error ", int(e))
			}
			want += answer + "\n"
		}
		if got := other.Run(script); got != want || one.Text() != other.Text() || one.Log() != other.Log() {
			t.Fatalf("Run(%q): %q, not %q", script, got, want)
		}
	}
}

// P12.2: a script of more than MaxText bytes is not done, and nothing of it.
func TestLongScript(t *testing.T) {
	script := strings.Repeat("begin\n", api.MaxText/6) + "\n\n\n\n"
	if len(script) != api.MaxText {
		t.Fatal(len(script))
	}
	o := office.New()
	if got := o.Run(script + "\n"); got != "" || o.Log() != "" {
		t.Errorf("%d bytes, log of %d", len(got), len(o.Log()))
	}
	if got := o.Run(script); got != strings.Repeat("ok\n", api.MaxText/6)+strings.Repeat("error 120\n", 4) || len(o.Log()) != api.MaxText-4 {
		t.Errorf("%d bytes, log of %d", len(got), len(o.Log()))
	}
	// An office that has a long log does a script still.
	if got := o.Run("clear\n"); got != "ok\n" {
		t.Errorf("%q", got)
	}
}
