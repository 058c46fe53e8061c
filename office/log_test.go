package office_test

import (
	"math/rand"
	"slices"
	"strings"
	"testing"

	"trestle/api"
	"trestle/office"
)

// P12.3: the text of an office: each part with its lines, in their order.
func TestText(t *testing.T) {
	o := office.New()
	if got := o.Text(); got != "moves 8\n" {
		t.Errorf("%q", got)
	}
	o = dinner(t)
	const layers = `table r round 4 0 0 10 1
table w row 2 0 30 0
guest dee duke spain 2001 1 - h latin
guest bob count spain 1998 1 vegan - latin
guest cid count france 1990 2 - a
guest ann - - 0 2 vegan h
feud ann cid
friend bob dee
`
	if got := o.Text(); got != layers+"moves 8\n" {
		t.Errorf("%q", got)
	}
	tell(t, o, `
		rule weigh 4 reach - => rules 1
		clause rank duke count => clauses 1
		rule hard seat bob r 2 => rules 2
		clause among count tongue last latin welsh => clauses 2
		moves 12 => ok
		clause lot 7 => clauses 3`)
	const all = layers + `clause rank duke count
clause among count tongue last latin welsh
clause lot 7
rule weigh 4 reach -
rule hard seat bob r 2
moves 12
`
	if got := o.Text(); got != all {
		t.Errorf("%q", got)
	}
	tell(t, o, `
		begin => ok`)
	if got := o.Text(); got != all+"begin\n" {
		t.Errorf("%q", got)
	}
	tell(t, o, `
		place ann r 0 => ok
		place dee w 1 => ok
		place bob r 3 => ok`)
	if got := o.Text(); got != all+"begin\nplace dee w 1\nplace bob r 3\nplace ann r 0\n" {
		t.Errorf("%q", got)
	}
	tell(t, o, "clear => ok")
	if got := o.Text(); got != all {
		t.Errorf("%q", got)
	}
}

// P12.5: the log has the lines of commands that keep and had no error, as they were told.
func TestLog(t *testing.T) {
	o := office.New()
	if got := o.Log(); got != "" {
		t.Errorf("%q", got)
	}
	tell(t, o, `
		state => tables 0 guests 0 ties 0 clauses 0 rules 0 no plan
		table w row 2 0 0 0 => tables 1
		table w row 2 0 0 0 => error 5
		guest bob - - 0 0 - - => guests 1
		guest ann - - 0 0 - - => guests 2
		friend bob ann => ties 1
		place ann w 0 => error 121
		solve => cost 0
		show => ann w 1 / bob w 0
		swap ann bob => ok
		swap ann bob => ok
		quarrel bob ann => error 9
		mend => moved 0 cost 0
		drop x => error 3
		begin => ok
		begin => ok`)
	if got := o.Log(); got != "table w row 2 0 0 0\nguest bob - - 0 0 - -\nguest ann - - 0 0 - -\nfriend bob ann\nsolve\nswap ann bob\nswap ann bob\nmend\nbegin\nbegin\n" {
		t.Errorf("%q", got)
	}
}

// P12.5: each command that keeps stands in the log, and none that asks may.
func TestKeepAndAsk(t *testing.T) {
	before := dinner(t).Log() + "rule hard peace -\nrule weigh 1 mix -\nbegin\nplace dee r 0\nplace bob r 1\nplace cid r 2\nplace ann w 0\n"
	lines := "table x row 1 0 0 0,guest eve - - 0 0 - -,friend bob cid,feud bob cid,clause name,rule hard peace r,drop 1,moves 3,begin,clear,place dee r 3,stand bob,swap dee ann,turn w 1,tidy,solve,build 2,mend,late guest eve - - 0 0 - -,cancel bob,quarrel dee ann,close w 1,demand hard at ann w," +
		"count,cost,prove,core,why ann,show,card ann,chart r,dishes,route,trips 9,order,classes,circles,camps,chain bob dee,evenings 2 2 2,state"
	for i, line := range strings.Split(lines, ",") {
		row := strings.Split(commandRows()[i], "|")
		o, n, e := office.Recover(before)
		if n != 13+2 || e != api.OK {
			t.Fatal(n, e)
		}
		if strings.Fields(row[0])[0] != strings.Fields(line)[0] {
			t.Fatal(row, line)
		}
		want := before
		if row[2] == "keeps" {
			want += line + "\n"
		}
		_, e = o.Do(line)
		if e != api.OK && line != "core" && line != "order" || o.Log() != want {
			t.Errorf("%s: %d, log %q", line, e, o.Log())
		}
		p, n, e := office.Recover(before + line + "\nbegin\n")
		switch {
		case row[2] == "keeps" && (p == nil || n != 13+2+2 || e != api.OK || p.Log() != before+line+"\nbegin\n"):
			t.Errorf("Recover with %q: %d, %d", line, n, e)
		case row[2] == "asks" && (p != nil || n != 13+2 || e != api.ErrLog):
			t.Errorf("Recover with %q: %d, %d", line, n, e)
		}
	}
}

// P12.5: logs, whole ones and others; the chapter's second example.
func TestRecover(t *testing.T) {
	for _, x := range []struct {
		log  string
		n    int
		e    api.Errno
		text string
	}{
		{"", 0, api.OK, "moves 8\n"},
		{"moves 3\nbegin\nstate\n", 2, api.ErrLog, ""},
		{"moves 3\nbegin\nsta", 2, api.OK, "moves 3\nbegin\n"},
		{"moves 3\nbegin\nstate", 2, api.OK, "moves 3\nbegin\n"},
		{"moves 3\nbegin\n", 2, api.OK, "moves 3\nbegin\n"},
		{"moves 3\nbegin", 1, api.OK, "moves 3\n"},
		{"moves 3", 0, api.OK, "moves 8\n"},
		{"moves 3\n\n", 1, api.ErrLog, ""},
		{"\n", 0, api.ErrLog, ""},
		{"\nmoves 3\n", 0, api.ErrLog, ""},
		{"moves 3\nmoves 65\nmoves 4\n", 1, api.ErrLog, ""},
		{"moves 3\nclear\nmoves 4\n", 1, api.ErrLog, ""},
		{"moves 3\nmoves 4 5\n", 1, api.ErrLog, ""},
		{"moves 3\ndance\n", 1, api.ErrLog, ""},
		{"moves 3\n moves 4\n", 1, api.ErrLog, ""},
		{"moves 3\nmoves 4 \n", 1, api.ErrLog, ""},
		{"moves 3\r\n", 0, api.ErrLog, ""},
		{"moves 3\n\xff\x00 \xff", 1, api.OK, "moves 3\n"},
		// Of a wrong line that is cut off nothing is said.
		{"moves 3\nmoves 65", 1, api.OK, "moves 3\n"},
		// A line that asks is refused, also if it could not be done.
		{"cost\n", 0, api.ErrLog, ""},
		{"moves 3\nwhy\n", 1, api.ErrLog, ""},
	} {
		o, n, e := office.Recover(x.log)
		if n != x.n || e != x.e || (o == nil) != (e != api.OK) {
			t.Errorf("Recover(%q): %d, %d", x.log, n, e)
			continue
		}
		if whole := x.log[:strings.LastIndex(x.log, "\n")+1]; o != nil && (o.Text() != x.text || o.Log() != whole) {
			t.Errorf("Recover(%q): text %q, log %q", x.log, o.Text(), o.Log())
		}
	}
}

// P12.5: a log may have any length, and its lines any number.
func TestLongLog(t *testing.T) {
	log := strings.Repeat("moves 3\nbegin\n", 20000)
	o, n, e := office.Recover(log)
	if o == nil || n != 40000 || e != api.OK || o.Log() != log || o.Text() != "moves 3\nbegin\n" {
		t.Error(n, e)
	}
	if o, n, e := office.Recover(log + "state\n"); o != nil || n != 40000 || e != api.ErrLog {
		t.Error(n, e)
	}
}

// P12.6, P8: the log of any office gives it again, and so does its text; a log that is cut off gives the office behind its last whole line.
func TestAgain(t *testing.T) {
	r := rand.New(rand.NewSource(4))
	for range 100 {
		o := office.New()
		// texts are those behind each line of the log.
		texts := []string{o.Text()}
		log := ""
		for _, line := range start(r) {
			o.Do(line)
			if o.Log() != log {
				texts, log = append(texts, o.Text()), o.Log()
			}
		}
		for range 50 {
			text := o.Text()
			answer, e := o.Do(anyLine(r))
			if e != api.OK && (answer != "" || o.Log() != log) || o.Log() == log && o.Text() != text {
				t.Fatalf("%q: %q, %d: %q is changed to %q", log, answer, e, text, o.Text())
			}
			if o.Log() != log {
				texts, log = append(texts, o.Text()), o.Log()
			}
		}
		if strings.Count(log, "\n") != len(texts)-1 {
			t.Fatalf("%q: %d texts", log, len(texts))
		}
		again(t, o, log, log)
		again(t, o, o.Text(), o.Text())
		for range 20 {
			cut := log[:r.Intn(len(log)+1)]
			n := strings.Count(cut, "\n")
			p, m, e := office.Recover(cut)
			if p == nil || m != n || e != api.OK || p.Text() != texts[n] || p.Log() != cut[:strings.LastIndex(cut, "\n")+1] {
				t.Fatalf("Recover(%q): %d, %d", cut, m, e)
			}
		}
	}
}

// again tests that a log gives an office with the same content.
func again(t *testing.T, o *office.Office, log, want string) {
	t.Helper()
	p, n, e := office.Recover(log)
	if p == nil || n != strings.Count(log, "\n") || e != api.OK {
		t.Fatalf("Recover(%q): %d, %d", log, n, e)
	}
	x, has := o.Plan()
	y, again := p.Plan()
	if p.Text() != o.Text() || p.Log() != want || !sameProblem(p.Problem(), o.Problem()) || has != again || !slices.Equal(x, y) {
		t.Fatalf("Recover(%q): %q, %v, %v, not %q, %v, %v", log, p.Text(), p.Problem(), y, o.Text(), o.Problem(), x)
	}
}
