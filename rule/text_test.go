package rule_test

import (
	"math"
	"math/rand"
	"slices"
	"strings"
	"testing"

	"trestle/api"
	"trestle/rule"
)

// lines are lines of all kinds, without their weights, with the rules that they tell of.
var lines = []struct {
	line string
	r    api.Rule
}{
	{"apart anna boris 0", api.Rule{Kind: api.Apart, A: "anna", B: "boris"}},
	{"apart boris anna 24", api.Rule{Kind: api.Apart, A: "boris", B: "anna", N: 24}},
	{"beside anna boris", api.Rule{Kind: api.Beside, A: "anna", B: "boris"}},
	{"across a abcdefghijkl", api.Rule{Kind: api.Across, A: "a", B: "abcdefghijkl"}},
	{"near anna anna 0", api.Rule{Kind: api.Near, A: "anna", B: "anna"}},
	{"near anna zoe 999999999", api.Rule{Kind: api.Near, A: "anna", B: "zoe", N: 999999999}},
	{"together hard weigh", api.Rule{Kind: api.Together, A: "hard", B: "weigh"}},
	{"at anna r", api.Rule{Kind: api.At, A: "anna", Table: "r"}},
	{"seat anna r 7", api.Rule{Kind: api.Seat, A: "anna", Table: "r", N: 7}},
	{"alternate -", api.Rule{Kind: api.Alternate}},
	{"alternate r", api.Rule{Kind: api.Alternate, Table: "r"}},
	{"host -", api.Rule{Kind: api.HostAt}},
	{"host host", api.Rule{Kind: api.HostAt, Table: "host"}},
	{"reach -", api.Rule{Kind: api.Reach}},
	{"reach anna", api.Rule{Kind: api.Reach, A: "anna"}},
	{"speak -", api.Rule{Kind: api.Speak}},
	{"speak r", api.Rule{Kind: api.Speak, Table: "r"}},
	{"peace -", api.Rule{Kind: api.Peace}},
	{"peace r", api.Rule{Kind: api.Peace, Table: "r"}},
	{"company -", api.Rule{Kind: api.Company}},
	{"company r", api.Rule{Kind: api.Company, Table: "r"}},
	{"honour -", api.Rule{Kind: api.Honour}},
	{"honour r", api.Rule{Kind: api.Honour, Table: "r"}},
	{"fill - 2", api.Rule{Kind: api.Fill, N: 2}},
	{"fill r 25", api.Rule{Kind: api.Fill, Table: "r", N: 25}},
	{"limit - 0", api.Rule{Kind: api.Limit}},
	{"limit r 10", api.Rule{Kind: api.Limit, Table: "r", N: 10}},
	{"kitchen vegan r", api.Rule{Kind: api.Kitchen, A: "vegan", Table: "r"}},
	{"mix -", api.Rule{Kind: api.Mix}},
	{"mix r", api.Rule{Kind: api.Mix, Table: "r"}},
}

// P4.3: the lines of all kinds, hard and weighed, there and back.
func TestLines(t *testing.T) {
	for _, x := range lines {
		for start, weight := range map[string]int{"hard ": 0, "weigh 1 ": 1, "weigh 30 ": 30, "weigh 1000 ": 1000} {
			r := x.r
			r.Weight = weight
			text := start + x.line + "\nhard mix -\n"
			want := []api.Rule{r, {Kind: api.Mix}}
			if l, i, e := rule.Parse(text); !slices.Equal(l, want) || i != 0 || e != api.OK {
				t.Errorf("Parse(%q): %v, %d, %d", text, l, i, e)
			}
			if s := rule.Format(want); s != text {
				t.Errorf("Format(%v): %q", want, s)
			}
		}
	}
	if l, i, e := rule.Parse(""); len(l) != 0 || i != 0 || e != api.OK || rule.Format(nil) != "" || rule.Format([]api.Rule{}) != "" {
		t.Error("no lines", l, i, e)
	}
}

// P4.3: lines that do not have their form, alone and behind others.
func TestForms(t *testing.T) {
	wrong := []string{
		"", " ", "-", "x", "\x00", "hard", "hard ", "weigh", "weigh 5", "weigh mix -", "soft mix -", "Hard mix -", "HARD mix -", "hardmix -", "mix -", "hard hard mix -", "weigh 5 hard mix -",
		" hard mix -", "hard mix - ", "hard  mix -", "hard mix  -", "hard mix\t-", "hard\tmix -", "hard 5 mix -", "weigh hard mix -", "hard weigh 5 mix -",
		"weigh 00 mix -", "weigh 01 mix -", "weigh +1 mix -", "weigh -1 mix -", "weigh -0 mix -", "weigh x mix -", "weigh - mix -", "weigh 1.0 mix -", "weigh 1_0 mix -", "weigh 0x1 mix -", "weigh ١ mix -", "weigh 1000000000 mix -", "weigh 0000000001 mix -", "weigh 99999999999999999999999 mix -",
		"hard mixed -", "hard mi -", "hard MIX -", "hard - -", "hard hostat -", "hard 1 -", "hard kind a b",
		"hard near a b", "hard near a 1", "hard near a b x", "hard near a b -", "hard near a b 01", "hard near a b -1", "hard near a b +1", "hard near a b 1000000000", "hard near a b 1 2", "hard near 1 a b", "hard near a b 0000000001", "hard near a b 1.",
		"hard seat a r", "hard seat a 1", "hard seat a 1 r", "hard seat a r 00", "hard fill 2", "hard fill r", "hard fill - -", "hard fill 2 r", "hard limit - x", "hard limit -", "weigh 0 near a b x", "weigh 2000 mix", "hard near A B x", "weigh 0 MIX -",
	}
	for _, x := range lines {
		words := strings.Split("hard "+x.line, " ")
		wrong = append(wrong, strings.Join(words[:len(words)-1], " "), strings.Join(append(words, "a"), " "), strings.Join(append(words, "1"), " "), strings.Join(append(words, "-"), " "))
	}
	for _, line := range wrong {
		for i, text := range []string{line + "\n", "hard mix -\n" + line + "\n", "hard mix -\nweigh 3 reach -\n" + line + "\nhard mix -\n"} {
			if l, got, e := rule.Parse(text); len(l) != 0 || got != i || e != api.ErrForm {
				t.Errorf("Parse(%.60q): %v, %d, %d", text, l, got, e)
			}
		}
	}
	for _, x := range lines {
		if l, i, e := rule.Parse("hard mix -\nhard " + x.line); len(l) != 0 || i != 1 || e != api.ErrForm {
			t.Errorf("%q without its end: %v, %d, %d", x.line, l, i, e)
		}
	}
}

// P4.3: weights that are too small or too large, and names that are none, in this order.
func TestWrongLines(t *testing.T) {
	wrong := func(line string, want api.Errno) {
		t.Helper()
		for i, text := range []string{line + "\n", "hard mix -\n" + line + "\nhard\n"} {
			if l, got, e := rule.Parse(text); len(l) != 0 || got != i || e != want {
				t.Errorf("Parse(%.60q): %v, %d, %d instead of %d", text, l, got, e, want)
			}
		}
	}
	for _, x := range lines {
		for _, weight := range []string{"0", "1001", "999999999"} {
			wrong("weigh "+weight+" "+x.line, api.ErrWeight)
			wrong("weigh "+weight+" "+strings.ReplaceAll(x.line, "anna", "Anna"), api.ErrWeight)
		}
		words := strings.Split(x.line, " ")
		named := len(words)
		if x.r.N > 0 || strings.HasSuffix(x.line, " 0") {
			named--
		}
		for i := 1; i < named; i++ {
			for _, name := range append(wrongNames, "7", "--") {
				bad := slices.Clone(words)
				bad[i] = name
				wrong("hard "+strings.Join(bad, " "), api.ErrName)
				wrong("weigh 9 "+strings.Join(bad, " "), api.ErrName)
			}
			bad := slices.Clone(words)
			bad[i] = "-"
			if !uses(x.r.Kind, "or") {
				wrong("hard "+strings.Join(bad, " "), api.ErrName)
			}
		}
	}
	wrong("hard at A -", api.ErrName)
	wrong("hard kitchen - r", api.ErrName)
	wrong("hard kitchen vegan -", api.ErrName)
}

// P4.3: as many rules as there may be, and more; texts as long as they may be, and longer.
func TestManyLines(t *testing.T) {
	full := strings.Repeat("hard mix -\n", api.MaxRules)
	if l, i, e := rule.Parse(full); len(l) != api.MaxRules || i != 0 || e != api.OK || rule.Format(l) != full {
		t.Error(len(l), i, e)
	}
	for more, want := range map[string]api.Errno{"hard mix -\n": api.ErrMany, "hard mix -": api.ErrForm, "hard mix\n": api.ErrForm, "weigh 0 mix A\n": api.ErrWeight, "hard mix A\n": api.ErrName} {
		if l, i, e := rule.Parse(full + more); len(l) != 0 || i != 64 || e != want {
			t.Errorf("%q: %v, %d, %d", more, l, i, e)
		}
	}
	if s := rule.Format(slices.Repeat([]api.Rule{{Kind: api.Mix}}, 65)); s != "" {
		t.Errorf("65 rules: %q", s)
	}
	long := "hard " + strings.Repeat("x", api.MaxText-6) + "\n"
	if _, i, e := rule.Parse("hard mix -\n" + long[11:]); i != 1 || e != api.ErrForm {
		t.Error("a text of MaxText bytes", i, e)
	}
	for _, text := range []string{long + "\n", "hard mix -\n" + long, strings.Repeat("\x00", 1<<20)} {
		if l, i, e := rule.Parse(text); len(l) != 0 || i != 0 || e != api.ErrMany {
			t.Error("a longer text", l, i, e)
		}
	}
}

// P4.3: rules that no line tells of have no text, alone and behind others.
func TestNoText(t *testing.T) {
	wrong := []api.Rule{{}, {Kind: 19}, {Kind: 255}, {A: "mix"}, {Kind: 0, A: "mix", B: "-"}}
	for k := api.Apart; k <= api.Mix; k++ {
		change := func(do func(r *api.Rule)) {
			r := plain(k)
			do(&r)
			wrong = append(wrong, r)
		}
		for _, w := range []int{math.MinInt, -1, 1001, 1000000000, math.MaxInt} {
			change(func(r *api.Rule) { r.Weight = w })
		}
		for _, n := range []int{math.MinInt, -1, 1000000000, math.MaxInt} {
			change(func(r *api.Rule) { r.N = n })
		}
		for _, name := range append(wrongNames, "-", "a b", "a ", " a", " ", "a\n", "\n", "anna\nhard mix") {
			change(func(r *api.Rule) { r.A = name })
			change(func(r *api.Rule) { r.B = name })
			change(func(r *api.Rule) { r.Table = name })
		}
		if !uses(k, "adr") {
			change(func(r *api.Rule) { r.A = "anna" })
		} else if !uses(k, "r") {
			change(func(r *api.Rule) { r.A = "" })
		}
		if !uses(k, "b") {
			change(func(r *api.Rule) { r.B = "anna" })
		} else {
			change(func(r *api.Rule) { r.B = "" })
			change(func(r *api.Rule) { r.A, r.B = "anna boris", "" })
		}
		if !uses(k, "to") {
			change(func(r *api.Rule) { r.Table = "r" })
		} else if uses(k, "t") {
			change(func(r *api.Rule) { r.Table = "" })
		}
		if !uses(k, "nms") {
			change(func(r *api.Rule) { r.N = 1 })
		}
	}
	for _, r := range wrong {
		if s := rule.Format([]api.Rule{r}); s != "" {
			t.Errorf("Format(%v): %q", r, s)
		}
		if s := rule.Format([]api.Rule{{Kind: api.Mix}, r, {Kind: api.Mix}}); s != "" {
			t.Errorf("Format of %v behind another one: %q", r, s)
		}
	}
}

// P4.3: Parse of what Format returns gives the same rules, and Format of what Parse returns the same text.
func TestThereAndBack(t *testing.T) {
	r := rand.New(rand.NewSource(1))
	for range 500 {
		p := anyProblem(r)
		text := rule.Format(p.Rules)
		l, i, e := rule.Parse(text)
		if i != 0 || e != api.OK || !slices.Equal(l, p.Rules) || rule.Format(l) != text || strings.Count(text, "\n") != len(l) {
			t.Fatalf("%v: %q gives %v, %d, %d", p.Rules, text, l, i, e)
		}
	}
}
