package repair_test

import (
	"math"
	"math/rand"
	"slices"
	"strconv"
	"strings"
	"testing"

	"trestle/api"
	"trestle/repair"
	"trestle/rule"
)

// P10.7: the changes that lines say.
func TestParse(t *testing.T) {
	for _, x := range []struct {
		line string
		c    api.Change
	}{
		{"late 0 guest dora - - 0 0 - -", late("dora", 0)},
		{"late 999999999 guest z - - 0 0 - -", late("z", 999999999)},
		{"late 63 guest abcdefghijkl duke spain 9999 2 fish ha a b c d", api.Change{Kind: api.Late, Guest: api.Guest{Name: "abcdefghijkl", Rank: "duke", Court: "spain", Since: 9999, Side: 2, Diet: "fish", Host: true, Access: true, Tongues: []string{"a", "b", "c", "d"}}, N: 63}},
		{"late 7 guest guest guest - 0 1 - h", api.Change{Kind: api.Late, Guest: api.Guest{Name: "guest", Rank: "guest", Side: 1, Host: true}, N: 7}},
		{"late 7 guest late - late 0 0 - a late", api.Change{Kind: api.Late, Guest: api.Guest{Name: "late", Court: "late", Access: true, Tongues: []string{"late"}}, N: 7}},
		{"cancel anna", api.Change{Kind: api.Cancel, A: "anna"}}, {"cancel cancel", api.Change{Kind: api.Cancel, A: "cancel"}}, {"cancel abcdefghijkl", api.Change{Kind: api.Cancel, A: "abcdefghijkl"}},
		{"quarrel anna boris", api.Change{Kind: api.Quarrel, A: "anna", B: "boris"}}, {"quarrel boris anna", api.Change{Kind: api.Quarrel, A: "boris", B: "anna"}}, {"quarrel anna anna", api.Change{Kind: api.Quarrel, A: "anna", B: "anna"}},
		{"close r 0", api.Change{Kind: api.Close, Table: "r"}}, {"close r 999999999", api.Change{Kind: api.Close, Table: "r", N: 999999999}},
		{"demand hard seat carl r 0", api.Change{Kind: api.Demand, Rule: api.Rule{Kind: api.Seat, A: "carl", Table: "r"}}},
		{"demand weigh 1000 mix -", api.Change{Kind: api.Demand, Rule: api.Rule{Kind: api.Mix, Weight: 1000}}},
		{"demand hard reach -", api.Change{Kind: api.Demand, Rule: api.Rule{Kind: api.Reach}}}, {"demand hard limit - 999999999", api.Change{Kind: api.Demand, Rule: api.Rule{Kind: api.Limit, N: 999999999}}},
		{"demand weigh 1 kitchen fish r", api.Change{Kind: api.Demand, Rule: api.Rule{Kind: api.Kitchen, Weight: 1, A: "fish", Table: "r"}}}, {"demand hard apart anna anna 77", api.Change{Kind: api.Demand, Rule: api.Rule{Kind: api.Apart, A: "anna", B: "anna", N: 77}}},
	} {
		for _, n := range []int{1, 3} {
			text := strings.Repeat(x.line+"\n", n)
			want := slices.Repeat([]api.Change{x.c}, n)
			if l, line, e := repair.Parse(text); line != 0 || e != api.OK || show(l) != show(want) {
				t.Errorf("%q: %+v, %d, %d", text, l, line, e)
			}
			if s := repair.Format(want); s != text {
				t.Errorf("%q, not %q", s, text)
			}
		}
	}
	if l, line, e := repair.Parse(""); len(l) != 0 || line != 0 || e != api.OK {
		t.Error(l, line, e)
	}
	for _, l := range [][]api.Change{nil, {}} {
		if s := repair.Format(l); s != "" {
			t.Errorf("%q", s)
		}
	}
}

// forms returns lines that do not have the form of a change.
func forms() []string {
	return []string{
		"", " ", "x", "late", "cancel", "quarrel", "close", "demand", "late ", "cancel ", "quarrel ", "close ", "demand ", "Cancel anna", "cancels anna", "marry anna boris", "guest dora - - 0 0 - -", "hard mix -", "\r", "\x00",
		"late 0", "late 0 ", "late 0 guest", "late 0 guest dora", "late 0 guest dora - - 0 0 -", "late guest dora - - 0 0 - -", "late 0 dora - - 0 0 - -", "late 0 friend anna boris", "late 0 feud anna boris", "late 0 late 0 guest dora - - 0 0 - -", "late 0 0 guest dora - - 0 0 - -",
		"late 00 guest dora - - 0 0 - -", "late 01 guest dora - - 0 0 - -", "late -1 guest dora - - 0 0 - -", "late +1 guest dora - - 0 0 - -", "late x guest dora - - 0 0 - -", "late - guest dora - - 0 0 - -", "late 1000000000 guest dora - - 0 0 - -", "late 0 Guest dora - - 0 0 - -", "late 0x1 guest dora - - 0 0 - -",
		"late 0 guest dora - - 00 0 - -", "late 0 guest dora - - - 0 - -", "late 0 guest dora - - 0 x - -", "late 0 guest dora - - 0 0 - ah", "late 0 guest dora - - 0 0 - latin", "late 0  guest dora - - 0 0 - -", "late 0 guest  dora - - 0 0 - -", "late 0 guest dora - - 0 0 - - ", "late 0 guest DORA - - 0 9 - ah", "late x guest DORA - - 0 0 - -",
		"cancel anna boris", "cancel anna ", "cancel  anna", " cancel anna", "cancel anna 0", "cancel A B", "quarrel anna", "quarrel anna boris carl", "quarrel anna  boris", "quarrel anna boris ", "quarrel anna boris 2", "quarrel A",
		"close r", "close r -", "close r 00", "close r -1", "close r +0", "close r x", "close r 0 0", "close 0 r", "close r 1000000000", "close r 0 ", "close r  0", "close  0", "close R", "close R x", "close - 00",
		"demand hard", "demand mix -", "demand hard mix", "demand hard mix - 0", "demand weigh mix -", "demand weigh 1", "demand weigh 01 mix -", "demand hard  mix -", "demand hard mix - ", "demand Hard mix -", "demand hard marry anna boris", "demand hard seat anna r x", "demand demand hard mix -", "demand weigh 0 mix", "demand hard at A", "demand hard apart A B",
	}
}

// wrongs returns lines that have the form of a change, with their errors.
func wrongs() map[string]api.Errno {
	return map[string]api.Errno{
		"late 0 guest Dora - - 10000 3 - - b a": api.ErrName, "late 0 guest - - - 0 0 - -": api.ErrName, "late 0 guest dora D - 0 0 - -": api.ErrName, "late 0 guest dora - abcdefghijklm 0 0 - -": api.ErrName, "late 0 guest dora - - 0 0 9 -": api.ErrName,
		"late 0 guest dora - - 10000 3 - - b a": api.ErrSince, "late 9 guest dora - - 999999999 0 - -": api.ErrSince, "late 9 guest dora - - 0 3 - - b a": api.ErrSide, "late 9 guest dora - - 0 0 - - b a": api.ErrTongue, "late 9 guest dora - - 0 0 - - a a": api.ErrTongue,
		"late 9 guest dora - - 0 0 - - A": api.ErrTongue, "late 9 guest dora - - 0 0 - - -": api.ErrTongue, "late 9 guest dora - - 0 0 - - a b c d e": api.ErrTongue,
		"cancel -": api.ErrName, "cancel A": api.ErrName, "cancel abcdefghijklm": api.ErrName, "cancel 0": api.ErrName, "cancel anna\r": api.ErrName, "cancel \xff": api.ErrName,
		"quarrel - anna": api.ErrName, "quarrel anna -": api.ErrName, "quarrel anna B": api.ErrName, "quarrel A boris": api.ErrName, "quarrel A B": api.ErrName, "quarrel anna abcdefghijklm": api.ErrName,
		"close - 0": api.ErrName, "close R 0": api.ErrName, "close 0 0": api.ErrName, "close abcdefghijklm 999999999": api.ErrName,
		"demand weigh 0 mix -": api.ErrWeight, "demand weigh 0 mix A": api.ErrWeight, "demand weigh 1001 at - -": api.ErrWeight, "demand weigh 999999999 mix -": api.ErrWeight, "demand hard at anna -": api.ErrName, "demand hard at - r": api.ErrName, "demand hard mix A": api.ErrName,
		"demand hard kitchen - r": api.ErrName, "demand weigh 1 apart anna B 9": api.ErrName,
	}
}

// P10.7: the errors of lines. The first line with an error decides.
func TestParseErrors(t *testing.T) {
	wrong := wrongs()
	for _, line := range forms() {
		wrong[line] = api.ErrForm
	}
	long := strings.Repeat("close r 0\n", 256)
	for line, asked := range wrong {
		for _, before := range []string{"", "cancel anna\n", "late 0 guest dora - - 0 0 - -\ndemand hard mix -\n", long} {
			for _, after := range []string{"", "cancel anna\n", "cancel\n", "demand weigh 0 mix -\n", "x"} {
				if l, i, e := repair.Parse(before + line + "\n" + after); len(l) != 0 || i != strings.Count(before, "\n") || e != asked {
					t.Errorf("%.40q, %q, %q: %v, %d, %d, not %d", before, line, after, l, i, e, asked)
				}
			}
			if line == "" {
				continue
			}
			// A line without its end has no form, whatever else is wrong with it.
			if l, i, e := repair.Parse(before + line); len(l) != 0 || i != strings.Count(before, "\n") || e != api.ErrForm {
				t.Errorf("%.40q, %q: %v, %d, %d", before, line, l, i, e)
			}
		}
	}
	for _, x := range []struct {
		text string
		n    int
		line int
		e    api.Errno
	}{
		{"cancel anna\ncancel boris", 0, 1, api.ErrForm}, {"cancel anna", 0, 0, api.ErrForm}, {long, 256, 0, api.OK}, {long + "close r 0\n", 0, 256, api.ErrMany}, {long + "close r 0", 0, 256, api.ErrForm}, {long + "close r 0\nx\n", 0, 256, api.ErrMany},
		{strings.Repeat("x", api.MaxText+1), 0, 0, api.ErrMany}, {strings.Repeat("x", api.MaxText), 0, 0, api.ErrForm}, {strings.Repeat("x", api.MaxText-1) + "\n", 0, 0, api.ErrForm}, {long + strings.Repeat("\n", api.MaxText+1-len(long)), 0, 0, api.ErrMany}, {long + strings.Repeat("\n", api.MaxText-len(long)), 0, 256, api.ErrForm},
		{"cancel " + strings.Repeat("x", api.MaxText-8) + "\n", 0, 0, api.ErrName}, {"cancel " + strings.Repeat("x", api.MaxText-7) + "\n", 0, 0, api.ErrMany}, {"late 0 guest a - - 0 0 - - " + strings.Repeat("b", api.MaxText-28) + "\n", 0, 0, api.ErrTongue}, {"demand hard mix " + strings.Repeat("b", api.MaxText-17) + "\n", 0, 0, api.ErrName},
	} {
		if l, line, e := repair.Parse(x.text); len(l) != x.n || line != x.line || e != x.e {
			t.Errorf("%.40q, %d bytes: %d, %d, %d, not %+v", x.text, len(x.text), len(l), line, e, x)
		}
	}
}

// P10.7: what no line says has no text.
func TestFormatNothing(t *testing.T) {
	ok := api.Change{Kind: api.Cancel, A: "anna"}
	guests := []api.Guest{{}, {Name: "A"}, {Name: "a b"}, {Name: "a\n"}, {Name: "dora", Rank: "-"}, {Name: "dora", Court: "B"}, {Name: "dora", Diet: " "}, {Name: "dora", Since: -1}, {Name: "dora", Since: 10000}, {Name: "dora", Side: 3}, {Name: "dora", Side: -1}, {Name: "dora", Tongues: []string{"b", "a"}}, {Name: "dora", Tongues: []string{""}}, {Name: "dora", Tongues: []string{"a", "b", "c", "d", "e"}}}
	rules := []api.Rule{{}, {Kind: 19}, {Kind: 255}, {Kind: api.Mix, Weight: -1}, {Kind: api.Mix, Weight: 1001}, {Kind: api.Mix, A: "anna"}, {Kind: api.Mix, B: "anna"}, {Kind: api.Mix, N: 1}, {Kind: api.Mix, Table: "-"}, {Kind: api.At, A: "anna"}, {Kind: api.At, Table: "r"}, {Kind: api.Limit, N: -1}, {Kind: api.Limit, N: 1000000000}, {Kind: api.Apart, A: "anna", B: "a b"}}
	var list []api.Change
	for _, g := range guests {
		list = append(list, api.Change{Kind: api.Late, Guest: g})
	}
	for _, r := range rules {
		list = append(list, api.Change{Kind: api.Demand, Rule: r})
	}
	for _, name := range []string{"", "-", "A", "abcdefghijklm", "a b", "a ", " a", "a\n", "a\ncancel b", "\xff"} {
		list = append(list, api.Change{Kind: api.Cancel, A: name}, api.Change{Kind: api.Quarrel, A: name, B: "anna"}, api.Change{Kind: api.Quarrel, A: "anna", B: name}, api.Change{Kind: api.Close, Table: name})
	}
	for _, n := range []int{math.MinInt, -1, 1000000000, math.MaxInt} {
		list = append(list, api.Change{Kind: api.Close, Table: "r", N: n}, late("dora", n))
	}
	for k := range 256 {
		if k == 0 || k > 5 {
			list = append(list, api.Change{Kind: api.ChangeKind(k)}, api.Change{Kind: api.ChangeKind(k), A: "anna"})
		}
	}
	for _, c := range append(list, extras()...) {
		for _, l := range [][]api.Change{{c}, {ok, c}, {c, ok}} {
			if s := repair.Format(l); s != "" {
				t.Errorf("%+v: %q", l, s)
			}
		}
	}
	if s := repair.Format(slices.Repeat([]api.Change{ok}, 256)); s != strings.Repeat("cancel anna\n", 256) {
		t.Errorf("%.60q", s)
	}
	if s := repair.Format(slices.Repeat([]api.Change{ok}, 257)); s != "" {
		t.Errorf("%.60q", s)
	}
}

// extras returns changes each of which has something in a field that its kind does not use, and is right otherwise.
func extras() []api.Change {
	var list []api.Change
	for _, c := range []api.Change{late("dora", 1), {Kind: api.Cancel, A: "anna"}, {Kind: api.Quarrel, A: "anna", B: "boris"}, {Kind: api.Close, Table: "r", N: 1}, {Kind: api.Demand, Rule: api.Rule{Kind: api.Apart, A: "anna", B: "boris", N: 1}}} {
		for _, g := range []api.Guest{{Name: "a"}, {Rank: "a"}, {Court: "a"}, {Since: 1}, {Side: 1}, {Diet: "a"}, {Host: true}, {Access: true}, {Tongues: []string{"a"}}} {
			if d := c; c.Kind != api.Late {
				d.Guest = g
				list = append(list, d)
			}
		}
		for _, r := range []api.Rule{{Kind: 1}, {Weight: 1}, {A: "a"}, {B: "a"}, {Table: "a"}, {N: 1}} {
			if d := c; c.Kind != api.Demand {
				d.Rule = r
				list = append(list, d)
			}
		}
		a, b, table, n := c, c, c, c
		a.A, b.B, table.Table, n.N = "a", "b", "c", 7
		if c.Kind != api.Cancel && c.Kind != api.Quarrel {
			list = append(list, a)
		}
		if c.Kind != api.Quarrel {
			list = append(list, b)
		}
		if c.Kind != api.Close {
			list = append(list, table)
		}
		if c.Kind != api.Close && c.Kind != api.Late {
			list = append(list, n)
		}
	}
	return list
}

// P10.7: what is written is read as it was, and what is read is written as it was.
func TestTextThereAndBack(t *testing.T) {
	r := rand.New(rand.NewSource(27))
	words := []string{"late", "cancel", "quarrel", "close", "demand", "guest", "hard", "weigh", "mix", "seat", "at", "apart", "limit", "reach", "anna", "boris", "r", "-", "-", "0", "0", "1", "h", "latin", "A", "01", ""}
	read := map[api.ChangeKind]int{}
	for range 2000 {
		p := anyProblem(r, 5000, 0)
		var l []api.Change
		right := true
		for range r.Intn(4) {
			c := anyChange(r, p)
			l = append(l, c)
			// The changes of this function are right but for some of their names and numbers.
			right = right && (c.Kind != api.Demand || rule.Format([]api.Rule{c.Rule}) != "") && c.N >= 0 && (c.Kind != api.Late || c.Guest.Name != "A") && (c.Kind != api.Cancel || c.A != "") && (c.Kind != api.Quarrel || c.A != "" && c.B != "") && (c.Kind != api.Close || c.Table != "")
		}
		text := repair.Format(l)
		if (text != "") != (right && len(l) > 0) || text != "" && strings.Count(text, "\n") != len(l) {
			t.Fatalf("%+v: %q", l, text)
		}
		if got, line, e := repair.Parse(text); text != "" && show(got) != show(l) || line != 0 || e != api.OK {
			t.Fatalf("%+v: %q: %+v, %d, %d", l, text, got, line, e)
		}
	}
	for range 400000 {
		var some []string
		first := r.Intn(5)
		some = append(some, words[first])
		switch first {
		case 0:
			some = append(some, pick(r, "0", strconv.Itoa(r.Intn(70)), "x"), pick(r, "guest", "guest", "feud"), "anna", pick(r, words...), "-", "0", pick(r, "0", "1"), "-", pick(r, words...))
		case 4:
			some = append(some, pick(r, "hard", "weigh"))
		}
		for range r.Intn(5) {
			some = append(some, pick(r, words...))
		}
		text := strings.Join(some, " ") + "\n"
		l, line, e := repair.Parse(text)
		if e != api.OK {
			if len(l) != 0 || line != 0 {
				t.Fatalf("%q: %v, %d, %d", text, l, line, e)
			}
			continue
		}
		if s := repair.Format(l); s != text || len(l) != 1 {
			t.Fatalf("%q, not %q", s, text)
		}
		read[l[0].Kind]++
	}
	for k := api.Late; k <= api.Demand; k++ {
		if read[k] < 200 {
			t.Error("read", read)
		}
	}
}
