package conflict_test

import (
	"math"
	"math/rand"
	"slices"
	"strconv"
	"strings"
	"testing"

	"trestle/api"
	"trestle/conflict"
	"trestle/rule"
)

// P7.5: the texts of sets, and what has none.
func TestDescribe(t *testing.T) {
	p := example(t)
	for _, x := range []struct {
		rules []int
		text  string
	}{
		{[]int{0, 1}, "rule 0 hard beside ann bob\nrule 1 hard across ann bob\n"},
		{[]int{2, 4}, "rule 2 hard apart bob cid 2\nrule 4 hard seat ann sun 0\n"},
		{[]int{4}, "rule 4 hard seat ann sun 0\n"},
		{nil, ""}, {[]int{}, ""},
		{[]int{1, 0}, ""}, {[]int{0, 0}, ""}, {[]int{3}, ""}, {[]int{0, 3}, ""}, {[]int{5}, ""}, {[]int{0, 1, 2, 4, 5}, ""}, {[]int{-1}, ""}, {[]int{-1, 0}, ""},
		{[]int{0, 1, 1}, ""}, {[]int{0, 2, 1}, ""}, {[]int{math.MinInt}, ""}, {[]int{0, math.MaxInt}, ""},
	} {
		if text := conflict.Describe(p, x.rules); text != x.text {
			t.Errorf("%v: %q", x.rules, text)
		}
	}
	for _, x := range fails() {
		for _, rules := range [][]int{nil, {0}, {2, 7}} {
			if text := conflict.Describe(x.p, rules); text != "" {
				t.Errorf("of a problem with error %d: %q", x.e, text)
			}
		}
	}
}

// P7.5: the sets that texts describe, and the errors of lines.
func TestParseCore(t *testing.T) {
	p := example(t)
	const pair = "rule 0 hard beside ann bob\nrule 1 hard across ann bob\n"
	for _, x := range []struct {
		text  string
		rules []int
	}{
		{"", nil}, {pair, []int{0, 1}}, {"rule 2 hard apart bob cid 2\nrule 4 hard seat ann sun 0\n", []int{2, 4}}, {pair + "rule 4 hard seat ann sun 0\n", []int{0, 1, 4}},
	} {
		if rules, line, e := conflict.ParseCore(p, x.text); !slices.Equal(rules, x.rules) || line != 0 || e != api.OK {
			t.Errorf("%q: %v, %d, %d", x.text, rules, line, e)
		}
	}
	form := []string{
		"", " ", "rule", "rule ", "rule 2", "rule 2 ", "rule 0 ", "rule  0 hard beside ann bob", " rule 0 hard beside ann bob", "rule 0 hard beside ann bob ", "rule 0  hard beside ann bob", "rule 0 hard  beside ann bob", "rule 9 hard ",
		"rules 0 hard beside ann bob", "Rule 0 hard beside ann bob", "0 hard beside ann bob", "hard beside ann bob", "core 0 hard beside ann bob",
		"rule x hard beside ann bob", "rule hard beside ann bob", "rule hard 0 beside ann bob", "rule 00 hard beside ann bob", "rule 01 hard across ann bob", "rule -1 hard beside ann bob", "rule -0 hard beside ann bob", "rule +0 hard beside ann bob",
		"rule 1000000000 hard beside ann bob", "rule 0000000000 hard beside ann bob", "rule 99999999999999999999 x", "rule 0x1 hard across ann bob", "rule 1_0 x", "rule ٣ x", "rule 0\r hard beside ann bob", "\x00", "\xff",
	}
	unknown := []string{
		"rule 1 hard beside ann bob", "rule 0 hard across ann bob", "rule 3 weigh 3 beside ann cid", "rule 3 hard beside ann cid", "rule 5 hard beside ann bob", "rule 64 x", "rule 999999999 x",
		"rule 0 x", "rule 0 0", "rule 0 -", "rule 0 hard", "rule 0 hard beside", "rule 0 hard beside ann", "rule 0 hard beside bob ann", "rule 0 hard beside ann bob 0", "rule 0 hard beside ann bob rule 1 hard across ann bob", "rule 0 weigh 1 beside ann bob",
		"rule 0 Hard beside ann bob", "rule 0 hard beside ann bob\r", "rule 0 hard beside ann bo", "rule 0 hard beside ann bobb", "rule 2 hard apart bob cid 02", "rule 2 hard apart bob cid 3", "rule 4 hard seat ann sun", "rule 4 hard seat ann sun -",
	}
	twice := []string{"rule 0 hard beside ann bob", "rule 1 hard across ann bob"}
	for _, before := range []string{"", pair, "rule 1 hard across ann bob\n"} {
		for _, after := range []string{"", "rule 2 hard apart bob cid 2\n", "rule\n", "rule 2"} {
			ask := func(line string, asked api.Errno) {
				t.Helper()
				rules, i, e := conflict.ParseCore(p, before+line+"\n"+after)
				if rules != nil || i != strings.Count(before, "\n") || e != asked {
					t.Errorf("%q: %v, %d, %d, not %d", before+line+"\n"+after, rules, i, e, asked)
				}
			}
			for _, line := range form {
				ask(line, api.ErrForm)
			}
			for _, line := range unknown {
				ask(line, api.ErrUnknown)
			}
			for _, line := range twice {
				if before != "" {
					ask(line, api.ErrTwice)
				}
			}
		}
		for _, line := range append(twice, "rule 2 hard apart bob cid 2", "rule 9 x", "r", " ") {
			if rules, i, e := conflict.ParseCore(p, before+line); rules != nil || i != strings.Count(before, "\n") || e != api.ErrForm {
				t.Errorf("%q: %v, %d, %d", before+line, rules, i, e)
			}
		}
	}
}

// P7.5: the problem's error comes first, with line 0; then ErrMany of a text that is too long.
func TestParseCoreErrors(t *testing.T) {
	long := strings.Repeat("x", api.MaxText+1)
	for _, x := range fails() {
		for _, text := range []string{"", "rule 1 hard limit - 0\n", "rule 1 hard limit - 0\nrule\n", long} {
			if rules, line, e := conflict.ParseCore(x.p, text); rules != nil || line != 0 || e != x.e {
				t.Errorf("%d bytes: %v, %d, %d, not %d", len(text), rules, line, e, x.e)
			}
		}
	}
	good := "rule 0 hard beside ann bob\n"
	for _, x := range []struct {
		text string
		line int
		e    api.Errno
	}{
		{long, 0, api.ErrMany}, {good + strings.Repeat("\n", api.MaxText+1-len(good)), 0, api.ErrMany}, {good + strings.Repeat("\n", api.MaxText-len(good)), 1, api.ErrForm},
		{"rule 0 " + strings.Repeat("x", api.MaxText-8) + "\n", 0, api.ErrUnknown}, {"rule 0 " + strings.Repeat("x", api.MaxText-7) + "\n", 0, api.ErrMany}, {long[1:], 0, api.ErrForm},
	} {
		if rules, line, e := conflict.ParseCore(example(t), x.text); rules != nil || line != x.line || e != x.e {
			t.Errorf("%d bytes: %v, %d, %d, not %d, %d", len(x.text), rules, line, e, x.line, x.e)
		}
	}
}

// P7.5: neither the work of a problem matters nor how many hard rules it has.
func TestTextLarge(t *testing.T) {
	p := crowd(64)
	p.Rules[7].Weight = 1
	var all []int
	var text strings.Builder
	for i := range 64 {
		if i != 7 {
			all = append(all, i)
			text.WriteString("rule " + strconv.Itoa(i) + " hard limit - 0\n")
		}
	}
	if s := conflict.Describe(p, all); s != text.String() {
		t.Errorf("%q", s)
	}
	if rules, line, e := conflict.ParseCore(p, text.String()); !slices.Equal(rules, all) || line != 0 || e != api.OK {
		t.Error(rules, line, e)
	}
}

// P7.5: each line says what rule.Format says; what is written is read as it was, and what is read is written as it was.
func TestTextThereAndBack(t *testing.T) {
	r := rand.New(rand.NewSource(10))
	lines, read := map[api.RuleKind]int{}, 0
	for range 800 {
		p := anyProblem(r, 130, r.Intn(12))
		var rules []int
		var want strings.Builder
		for _, i := range rule.Hard(p) {
			if r.Intn(3) > 0 {
				rules = append(rules, i)
				want.WriteString("rule " + strconv.Itoa(i) + " " + rule.Format([]api.Rule{p.Rules[i]}))
				lines[p.Rules[i].Kind]++
			}
		}
		text := conflict.Describe(p, rules)
		if text != want.String() {
			t.Fatalf("%v: %q, not %q", p, text, want.String())
		}
		if got, line, e := conflict.ParseCore(p, text); !slices.Equal(got, rules) || line != 0 || e != api.OK {
			t.Fatalf("%v: %q: %v, %d, %d", p, text, got, line, e)
		}
		// Whatever lines are put together, what is read is written again.
		var some strings.Builder
		order := r.Perm(len(p.Rules))[:min(r.Intn(5), len(p.Rules))]
		if r.Intn(2) == 0 {
			slices.Sort(order)
		}
		for _, i := range order {
			some.WriteString("rule " + strconv.Itoa(i) + " " + rule.Format([]api.Rule{p.Rules[i]}))
		}
		if got, _, e := conflict.ParseCore(p, some.String()); e == api.OK && len(got) > 1 {
			if s := conflict.Describe(p, got); s != some.String() {
				t.Fatalf("%v: %v: %q, not %q", p, got, s, some.String())
			}
			read++
		}
	}
	for k := api.Apart; k <= api.Mix; k++ {
		if lines[k] < 10 {
			t.Errorf("only %d lines of the kind %d", lines[k], k)
		}
	}
	if read < 20 {
		t.Errorf("only %d texts are read", read)
	}
}
