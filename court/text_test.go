package court_test

import (
	"math/rand"
	"slices"
	"strings"
	"testing"

	"trestle/api"
	"trestle/court"
)

// P3.6: the lines of all kinds, there and back.
func TestLines(t *testing.T) {
	for _, x := range []struct {
		line string
		x    api.Clause
	}{
		{"rank duke", api.Clause{Kind: api.ByRank, Names: []string{"duke"}}},
		{"rank duke count abcdefghijkl", api.Clause{Kind: api.ByRank, Names: []string{"duke", "count", "abcdefghijkl"}}},
		{"rank among rank", api.Clause{Kind: api.ByRank, Names: []string{"among", "rank"}}},
		{"rank " + strings.Join(names(16), " "), api.Clause{Kind: api.ByRank, Names: names(16)}},
		{"elder", api.Clause{Kind: api.ByElder}},
		{"youth", api.Clause{Kind: api.ByYouth}},
		{"side 1 first", api.Clause{Kind: api.BySide, N: 1}},
		{"side 2 last", api.Clause{Kind: api.BySide, N: 2, Last: true}},
		{"host first", api.Clause{Kind: api.ByHost}},
		{"host last", api.Clause{Kind: api.ByHost, Last: true}},
		{"tongue first latin", api.Clause{Kind: api.ByTongue, Names: []string{"latin"}}},
		{"tongue last latin greek", api.Clause{Kind: api.ByTongue, Last: true, Names: []string{"latin", "greek"}}},
		{"court first spain", api.Clause{Kind: api.ByCourt, Names: []string{"spain"}}},
		{"court last last first", api.Clause{Kind: api.ByCourt, Last: true, Names: []string{"last", "first"}}},
		{"name", api.Clause{Kind: api.ByName}},
		{"list", api.Clause{Kind: api.ByList}},
		{"lot 0", api.Clause{Kind: api.ByLot}},
		{"lot 63", api.Clause{Kind: api.ByLot, N: 63}},
	} {
		for _, among := range []string{"", "duke", "among", "elder"} {
			before := []api.Clause{{Kind: api.ByRank, Names: []string{"elder", "duke", "among"}}}
			y, text := x.x, "rank elder duke among\n"+x.line+"\n"
			if among != "" && y.Kind != api.ByRank {
				y.Among, text = among, "rank elder duke among\namong "+among+" "+x.line+"\n"
			}
			want := append(before, y)
			if c, line, e := court.Parse(text); e != api.OK || line != 0 || !sameCourt(c, want) {
				t.Errorf("Parse(%q): %v, %d, %d", text, c, line, e)
			}
			if s := court.Format(want); s != text {
				t.Errorf("Format(%v): %q", want, s)
			}
		}
	}
	if c, line, e := court.Parse(""); len(c) != 0 || line != 0 || e != api.OK || court.Format(nil) != "" || court.Format([]api.Clause{}) != "" {
		t.Error("no lines", c, line, e)
	}
}

// P3.6: lines that do not have their form, alone and behind others.
func TestForms(t *testing.T) {
	for _, line := range []string{
		"\n", " \n", "\n\n", "-\n", "x\n", "\x00\n", "elder", "rank a b", "side 1 first", "lot 0", "lot 63\r",
		" elder\n", "elder \n", "elder\r\n", "\telder\n", "elders\n", "elde\n", "Elder\n", "ELDER\n", "elder elder\n", "elder first\n", "elder 0\n", "elder -\n",
		"youth first\n", "youth youth\n", "name name\n", "name a\n", "list 1\n", "list last\n", "names\n", "lists\n",
		"rank\n", "rank \n", "rank  a\n", "rank a  b\n", "rank a \n", "ranks a\n", "Rank a\n", " rank a\n",
		"side\n", "side 1\n", "side first\n", "side first 1\n", "side 1 First\n", "side 1 firs\n", "side 1 lasts\n", "side 1 -\n", "side 1 1\n", "side 1 first last\n", "side 1 last last\n", "side  1 last\n", "side 1  last\n",
		"side 01 first\n", "side 00 first\n", "side +1 first\n", "side -1 first\n", "side -0 first\n", "side x first\n", "side 1_0 first\n", "side 0x1 first\n", "side 1.0 first\n", "side - first\n", "side ١ first\n",
		"side 0000000001 first\n", "side 1000000000 first\n", "side 99999999999999999999999 first\n", "side 3 x\n", "side x x\n",
		"host\n", "host 1\n", "host first last\n", "host last a\n", "host -\n", "hosts first\n",
		"tongue\n", "tongue first\n", "tongue last\n", "tongue latin\n", "tongue latin first\n", "tongue 1 first latin\n", "tongue first  latin\n", "tongue - latin\n",
		"court\n", "court first\n", "court a first\n", "court a\n", "court FIRST a\n",
		"lot\n", "lot first\n", "lot 1 2\n", "lot 1 first\n", "lot 01\n", "lot -1\n", "lot +1\n", "lot x\n", "lot 1000000000\n", "lot 6 3\n", "lot " + strings.Repeat("1", 60000) + "\n",
		"among\n", "among a\n", "among elder\n", "among rank\n", "among among\n", "among a b\n", "among a among elder\n", "among a among a elder\n", "among  elder\n", "among a  elder\n", "among a elder \n", "among a rank\n", "among A x\n", "among - \n", "among a elder", "among a lot 01\n", "among A side 01 first\n", "elder among a\n", "side 1 first among a\n", "among a elder elder\n",
	} {
		for i, text := range []string{line, "rank a\n" + line, "elder\nlot 5\n" + line, line + "elder\n"} {
			at := []int{0, 1, 2, 0}[i]
			if i == 3 && !strings.HasSuffix(line, "\n") {
				continue
			}
			if c, got, e := court.Parse(text); len(c) != 0 || got != at || e != api.ErrForm {
				t.Errorf("Parse(%.60q): %v, %d, %d", text, c, got, e)
			}
		}
	}
}

// P3.6: the other errors of a line in their order, and the first line with an error.
func TestParseErrors(t *testing.T) {
	for _, x := range []struct {
		text string
		line int
		e    api.Errno
	}{
		{"side 0 first\n", 0, api.ErrClause},
		{"side 3 last\n", 0, api.ErrClause},
		{"side 999999999 last\n", 0, api.ErrClause},
		{"lot 64\n", 0, api.ErrClause},
		{"lot 999999999\n", 0, api.ErrClause},
		{"rank " + strings.Join(names(17), " ") + "\n", 0, api.ErrClause},
		{"tongue last " + strings.Join(names(17), " ") + "\n", 0, api.ErrClause},
		{"court first" + strings.Repeat(" A", 30000) + "\n", 0, api.ErrClause},
		{"rank a\namong a rank b\n", 1, api.ErrClause},
		{"among A rank B B\n", 0, api.ErrClause},
		{"among - rank b\n", 0, api.ErrClause},
		{"among A side 3 first\n", 0, api.ErrClause},
		{"rank A\n", 0, api.ErrName},
		{"rank -\n", 0, api.ErrName},
		{"rank 1\n", 0, api.ErrName},
		{"rank abcdefghijklm\n", 0, api.ErrName},
		{"rank a\x00\n", 0, api.ErrName},
		{"rank a\tb\n", 0, api.ErrName},
		{"rank a\r\n", 0, api.ErrName},
		{"rank \xff\n", 0, api.ErrName},
		{"court last a B a\n", 0, api.ErrName},
		{"court last a a B\n", 0, api.ErrName},
		{"tongue first -\n", 0, api.ErrName},
		{"among A elder\n", 0, api.ErrName},
		{"among - elder\n", 0, api.ErrName},
		{"among B tongue first a a\n", 0, api.ErrName},
		{"rank a b a\n", 0, api.ErrTwice},
		{"court last a b a\n", 0, api.ErrTwice},
		{"among b tongue first a a\n", 0, api.ErrTwice},
		{"elder\namong a elder\n", 1, api.ErrAmong},
		{"among a elder\nrank a\n", 0, api.ErrAmong},
		{"among elder elder\n", 0, api.ErrAmong},
		{"rank b\nrank c\namong a host last\nx\n", 2, api.ErrAmong},
		{"court first a\namong a elder\n", 1, api.ErrAmong},
		{"rank a\nelder\nside 3 first\nx\n", 2, api.ErrClause},
		{"rank a\nelder\nx\nside 3 first\n", 2, api.ErrForm},
		{"elder\nrank A", 1, api.ErrForm},
	} {
		if c, line, e := court.Parse(x.text); len(c) != 0 || line != x.line || e != x.e {
			t.Errorf("Parse(%.60q): %v, %d, %d, not %d, %d", x.text, c, line, e, x.line, x.e)
		}
	}
}

// P3.6: a text has at most MaxClause clauses and MaxText bytes.
func TestParseMany(t *testing.T) {
	full := "rank a\n" + strings.Repeat("elder\n", 31)
	if c, line, e := court.Parse(full); len(c) != 32 || line != 0 || e != api.OK || court.Format(c) != full {
		t.Error("32 clauses", len(c), line, e)
	}
	for _, x := range []struct {
		more string
		e    api.Errno
	}{
		{"elder\n", api.ErrMany}, {"among a elder\n", api.ErrMany}, {"rank a\n", api.ErrMany}, {"elder\nx\n", api.ErrMany},
		{"elder", api.ErrForm}, {"x\n", api.ErrForm}, {"\n", api.ErrForm}, {"lot 64\n", api.ErrClause}, {"rank A\n", api.ErrName}, {"rank b b\n", api.ErrTwice}, {"among b elder\n", api.ErrAmong},
	} {
		if c, line, e := court.Parse(full + x.more); len(c) != 0 || line != 32 || e != x.e {
			t.Errorf("%q: %v, %d, %d, not %d", x.more, c, line, e, x.e)
		}
	}
	for _, x := range []struct {
		text string
		line int
		e    api.Errno
	}{
		{"elder\n" + strings.Repeat("\n", api.MaxText-6), 1, api.ErrForm},
		{"elder\n" + strings.Repeat("\n", api.MaxText-5), 0, api.ErrMany},
		{strings.Repeat("x", api.MaxText), 0, api.ErrForm},
		{strings.Repeat("x", api.MaxText+1), 0, api.ErrMany},
		{strings.Repeat("elder\n", api.MaxText/6), 32, api.ErrMany},
		{strings.Repeat("elder\n", api.MaxText/6+1), 0, api.ErrMany},
		{"rank" + strings.Repeat(" a", (api.MaxText-5)/2) + "\n", 0, api.ErrClause},
		{strings.Repeat(" ", 1<<20), 0, api.ErrMany},
	} {
		if c, line, e := court.Parse(x.text); len(c) != 0 || line != x.line || e != x.e {
			t.Errorf("%d bytes: %v, %d, %d, not %d, %d", len(x.text), c, line, e, x.line, x.e)
		}
	}
}

// P3.6: a court's text that is not valid has no lines.
func TestFormatWrong(t *testing.T) {
	for _, c := range invalid() {
		if s := court.Format(c); s != "" {
			t.Errorf("Format(%v): %q", c, s)
		}
	}
	full := slices.Repeat([]api.Clause{{Kind: api.ByName}}, 32)
	if court.Format(full) != strings.Repeat("name\n", 32) || court.Format(append(full, full[0])) != "" {
		t.Error("32 and 33 clauses")
	}
}

// P3.6: what Parse returns shares no memory with itself.
func TestParseMemory(t *testing.T) {
	c, _, _ := court.Parse("rank a b\ntongue first a b\n")
	c[0].Names = append(c[0].Names[:1], "x", "y", "z")
	if !slices.Equal(c[1].Names, []string{"a", "b"}) {
		t.Error("names share memory", c)
	}
}

// P3.6, P3.7: a text with some bytes changed either has an error, or is what Format returns.
func TestChangedTexts(t *testing.T) {
	text := "rank duke count\namong duke elder\nside 1 first\ntongue last latin greek\nlot 12\nname\n"
	letters := []byte(" \n-0129aelm\x00\xff")
	r := rand.New(rand.NewSource(9))
	for range 30000 {
		b := []byte(text)
		for range 1 + r.Intn(3) {
			b[r.Intn(len(b))] = letters[r.Intn(len(letters))]
		}
		if r.Intn(4) == 0 {
			b = b[:r.Intn(len(b))]
		}
		c, line, e := court.Parse(string(b))
		switch {
		case e != api.OK && (len(c) != 0 || line > strings.Count(string(b), "\n")):
			t.Fatalf("%q gives %v, %d, %d", b, c, line, e)
		case e == api.OK && (line != 0 || court.Format(c) != string(b)):
			t.Fatalf("%q gives %q, %d", b, court.Format(c), line)
		}
	}
}
