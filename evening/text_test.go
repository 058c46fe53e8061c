package evening_test

import (
	"math"
	"math/rand"
	"slices"
	"strings"
	"testing"

	"trestle/api"
	"trestle/evening"
)

// P9.6: the texts of schedules, and the schedules of texts.
func TestText(t *testing.T) {
	for _, x := range []struct {
		n    int
		text string
	}{
		{1, ""}, {64, ""}, {1, "0\n"}, {1, "0\n0\n0\n"}, {4, "0 1 / 2 3\n"}, {4, "0 1 / 2 3\n3 0 / 1 / 2\n3 2 1 0\n"}, {4, "3 / 2 / 1 / 0\n"},
		{11, "10 9 / 8 7 6 / 5 4 / 3 2 1 0\n"}, {1, strings.Repeat("0\n", 64)},
	} {
		s, line, e := evening.Parse(x.n, x.text)
		if line != 0 || e != api.OK || len(s) != strings.Count(x.text, "\n") || write(s) != x.text {
			t.Errorf("%q: %v, %d, %d", x.text, s, line, e)
		}
		if text := evening.Format(x.n, s); text != x.text {
			t.Errorf("%q, not %q", text, x.text)
		}
	}
	s, _, _ := evening.Parse(4, "0 1 / 2 3\n3 0 / 1 / 2\n")
	if !same(s, [][][]int{{{0, 1}, {2, 3}}, {{3, 0}, {1}, {2}}}) {
		t.Error(s)
	}
}

// P9.6: Parse of what Format returns gives the same schedule, and Format of what Parse returns gives the same text.
func TestThereAndBack(t *testing.T) {
	r := rand.New(rand.NewSource(10))
	for range 500 {
		n := 1 + r.Intn(64)
		s := anyEvenings(r, n, r.Intn(65))
		text := evening.Format(n, s)
		if text != write(s) {
			t.Fatalf("%v: %q", s, text)
		}
		back, line, e := evening.Parse(n, text)
		if !same(back, s) || line != 0 || e != api.OK || evening.Format(n, back) != text {
			t.Fatalf("%q: %v, %d, %d", text, back, line, e)
		}
	}
	// The longest texts.
	guests := rand.New(rand.NewSource(11)).Perm(64)
	s := slices.Repeat(anySchedule(rand.New(rand.NewSource(12)), 64, slices.Repeat([]int{1}, 64), 1), 64)
	if text := evening.Format(64, s); len(text) != 64*(10+2*54+3*63+1) || text != write(s) {
		t.Error(len(text))
	}
	if text := evening.Format(64, [][][]int{{guests}}); text != write([][][]int{{guests}}) {
		t.Error(text)
	}
}

// P9.6: lines that do not have the form.
func TestLineForm(t *testing.T) {
	for _, line := range []string{
		"", " ", "  ", "/", "//", "/ /", " / ", "0 1 2 3 /", "0 1 2 3 / ", "/ 0 1 2 3", " / 0 1 2 3", "0 1 / / 2 3", "0 1 /  / 2 3", "0 1 // 2 3", "0 1 / 2 3 / /",
		"0 1/ 2 3", "0 1 /2 3", "0 1/2 3", "0/1 / 2 3", " 0 1 2 3", "0 1 2 3 ", "0  1 2 3", "0 1  / 2 3", "0 1 /  2 3", "0\t1 2 3", "0 1 2 3\r", "0 1 2 3\x00",
		"0 1 2 03", "00 1 2 3", "0 1 2 +3", "-0 1 2 3", "0 1 2 -3", "0 1 2 3.0", "0 1 2 0x3", "0 1 2 1e0", "0 1 2 a", "a", "0,1,2,3", "0 1 2 3;", "0 1 | 2 3", "0 1 2 1_0",
		"0 1 2 1000000000", "0 1 2 0000000003", "0 1 2 99999999999999999999", "0 1 2 \u0663",
	} {
		for k := range 3 {
			// Behind good lines, and before others that are wrong.
			text := strings.Repeat("0 1 / 2 3\n", k) + line + "\n9 9\n\n"
			if s, at, e := evening.Parse(4, text); s != nil || at != k || e != api.ErrForm {
				t.Errorf("%q: %v, %d, %d", text, s, at, e)
			}
		}
	}
	for _, text := range []string{"0 1 2 3", "0 1 / 2 3\n0 1 / 2 3", "0 1 / 2 3\n0", "0 1 / 2 3\n9", "0 1 / 2 3\n ", "0 1 / 2 3\n0 0"} {
		if s, at, e := evening.Parse(4, text); s != nil || at != strings.Count(text, "\n") || e != api.ErrForm {
			t.Errorf("%q: %v, %d, %d", text, s, at, e)
		}
	}
}

// P9.6: the errors of lines that have the form, and their order.
func TestLineErrors(t *testing.T) {
	for _, x := range []struct {
		line string
		e    api.Errno
	}{
		{"0 1 2 4", api.ErrUnknown}, {"0 1 2 3 4", api.ErrUnknown}, {"999999999", api.ErrUnknown}, {"64", api.ErrUnknown}, {"0 0 / 4", api.ErrUnknown}, {"0 1 / 5 / 2 3", api.ErrUnknown},
		{"0 1 2 3 / 0", api.ErrTwice}, {"0 0 1", api.ErrTwice}, {"0 1 1 2", api.ErrTwice}, {"0 / 0", api.ErrTwice}, {"3 2 1 0 3 2 1 0", api.ErrTwice},
		{"0", api.ErrArg}, {"0 1 2", api.ErrArg}, {"3 / 2 / 1", api.ErrArg}, {"1 2 3", api.ErrArg},
		// Form comes before what numbers mean.
		{"0 0 / 9 /", api.ErrForm}, {"9 a", api.ErrForm}, {"0 0 00", api.ErrForm},
	} {
		for k := range 3 {
			text := strings.Repeat("0 1 / 2 3\n", k) + x.line + "\nx\n"
			if s, at, e := evening.Parse(4, text); s != nil || at != k || e != x.e {
				t.Errorf("%q: %v, %d, %d", text, s, at, e)
			}
		}
		// There are MaxEvenings evenings already: that comes last.
		text := strings.Repeat("0 1 / 2 3\n", 64) + x.line + "\n"
		if s, at, e := evening.Parse(4, text); s != nil || at != 64 || e != x.e {
			t.Errorf("%q: %v, %d, %d", x.line, s, at, e)
		}
	}
	for _, k := range []int{65, 66, 200} {
		if s, at, e := evening.Parse(4, strings.Repeat("0 1 / 2 3\n", k)); s != nil || at != 64 || e != api.ErrMany {
			t.Errorf("%d lines: %v, %d, %d", k, s, at, e)
		}
	}
	if s, at, e := evening.Parse(4, strings.Repeat("0 1 / 2 3\n", 65)+"x\n"); s != nil || at != 64 || e != api.ErrMany {
		t.Error(s, at, e)
	}
	if s, at, e := evening.Parse(4, strings.Repeat("0 1 / 2 3\n", 64)+"0 1 / 2 3"); s != nil || at != 64 || e != api.ErrForm {
		t.Error(s, at, e)
	}
}

// P9.6: the number of guests comes before the length of the text, and that before all lines.
func TestTextLimit(t *testing.T) {
	long := strings.Repeat("0\n", api.MaxText/2+1)
	for _, n := range []int{math.MinInt, -1, 0, 65, math.MaxInt} {
		for _, text := range []string{"", "x", "0\n", "0\nx\n", long} {
			if s, line, e := evening.Parse(n, text); s != nil || line != 0 || e != api.ErrSize {
				t.Errorf("%d: %v, %d, %d", n, s, line, e)
			}
		}
	}
	for _, text := range []string{long, strings.Repeat(" ", api.MaxText+1), strings.Repeat("\n", 1<<20), strings.Repeat("0 ", 1<<20)} {
		if s, line, e := evening.Parse(1, text); s != nil || line != 0 || e != api.ErrMany {
			t.Errorf("%d bytes: %v, %d, %d", len(text), s, line, e)
		}
	}
	// A text of MaxText bytes is read.
	for _, x := range []struct {
		text string
		line int
		e    api.Errno
	}{
		{strings.Repeat("0\n", api.MaxText/2), 64, api.ErrMany}, {strings.Repeat(" ", api.MaxText), 0, api.ErrForm}, {strings.Repeat("0 ", api.MaxText/2-1) + "0\n", 0, api.ErrTwice},
		{strings.Repeat("9 ", api.MaxText/2-1) + "0\n", 0, api.ErrUnknown}, {"0\n" + strings.Repeat("\n", api.MaxText-2), 1, api.ErrForm}, {strings.Repeat("/", api.MaxText), 0, api.ErrForm},
	} {
		if s, line, e := evening.Parse(1, x.text); len(x.text) != api.MaxText || s != nil || line != x.line || e != x.e {
			t.Errorf("%d bytes: %v, %d, %d", len(x.text), s, line, e)
		}
	}
}

// P9.6: a text with some bytes changed either is the text of the schedule that it gives, or has an error.
func TestChangedTexts(t *testing.T) {
	text := "0 1 / 2 3 / 4\n4 0 / 3 / 1 2\n0 1 2 3 4\n0 / 1 / 2 / 3 / 4\n"
	letters := []byte(" \n/0123456789-+a\x00\xff")
	r := rand.New(rand.NewSource(13))
	read := 0
	for range 30000 {
		b := []byte(text)
		for range 1 + r.Intn(3) {
			b[r.Intn(len(b))] = letters[r.Intn(len(letters))]
		}
		if r.Intn(4) == 0 {
			b = b[:r.Intn(len(b))]
		}
		s, line, e := evening.Parse(5, string(b))
		switch {
		case e == api.OK && (line != 0 || evening.Format(5, s) != string(b)):
			t.Fatalf("%q gives %v at line %d", b, s, line)
		case e != api.OK && (s != nil || line < 0 || line > strings.Count(string(b), "\n")):
			t.Fatalf("%q gives %v at line %d beside error %d", b, s, line, e)
		case e != api.OK:
			// The lines before it are the text of a schedule.
			before := strings.Join(strings.SplitAfter(string(b), "\n")[:line], "")
			if s, _, e := evening.Parse(5, before); e != api.OK || len(s) != line {
				t.Fatalf("%q gives %v, %d", before, s, e)
			}
		default:
			read++
		}
	}
	if read < 300 {
		t.Error(read)
	}
}
