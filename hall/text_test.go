package hall_test

import (
	"reflect"
	"strconv"
	"strings"
	"testing"

	"trestle/api"
	"trestle/hall"
)

// P1.6: texts of halls, and the halls that they tell of.
func TestParse(t *testing.T) {
	for _, x := range []struct {
		text string
		l    []api.Table
	}{
		{"", nil},
		{"table sun round 6 0 3 4 0 5\n", []api.Table{{Name: "sun", Shape: api.Round, A: 6, X: 3, Y: 4, Open: []int{0, 5}}}},
		{
			"table a long 11 2 0 1000\ntable b horseshoe 1 8 1000 0 0 16\ntable table row 24 24 1 2\n",
			[]api.Table{{Name: "a", Shape: api.Long, A: 11, B: 2, Y: 1000}, {Name: "b", Shape: api.Horseshoe, A: 1, B: 8, X: 1000, Open: []int{0, 16}}, {Name: "table", Shape: api.Row, A: 24, B: 24, X: 1, Y: 2}},
		},
	} {
		l, line, e := hall.Parse(x.text)
		if line != 0 || e != api.OK || len(l) != len(x.l) || len(l) > 0 && !reflect.DeepEqual(l, x.l) {
			t.Errorf("Parse(%q) is %v, %d, %d", x.text, l, line, e)
		}
		if text := hall.Format(x.l); text != x.text {
			t.Errorf("Format(%v) is %q", x.l, text)
		}
	}
}

// P1.6: lines that do not have the form of a table.
func TestParseForm(t *testing.T) {
	good := "table sun round 6 0 3 4"
	for _, line := range []string{
		"\n", " \n", "\n\n", good, "table\n", "table sun\n", "table sun round 6 0 3\n", "table sun oval 6 0 3 4\n", "table sun Round 6 0 3 4\n",
		"Table sun round 6 0 3 4\n", "tables sun round 6 0 3 4\n", "sun round 6 0 3 4\n", " " + good + "\n", good + " \n", good + "  5\n",
		"table  sun round 6 0 3 4\n", "table  round 6 0 3 4 5\n", "table sun\tround 6 0 3 4\n", good + "\r\n", good + "\t\n", good + " x\n",
		"table sun round -6 0 3 4\n", "table sun round +6 0 3 4\n", "table sun round 06 0 3 4\n", "table sun round 6 00 3 4\n",
		"table sun round 6 0 1000000000 4\n", "table sun round 6 0 99999999999999999999999999 4\n", "table sun round 6.0 0 3 4\n", "table sun round six 0 3 4\n",
		"table sun round 6 0 3 4 0 05\n", "table sun round 6 0 3 4 ٣\n", "table sun 1 6 0 3 4\n", "#\n", "\x00\n", "table SUN round 99 0 3 x\n", "table sun round 99 0 9999 4 7",
	} {
		for before := range 2 {
			text := strings.Repeat("table moon row 1 0 0 0\n", before) + line
			if l, i, e := hall.Parse(text); len(l) != 0 || i != before || e != api.ErrForm {
				t.Errorf("Parse(%q) is %v, %d, %d", text, l, i, e)
			}
		}
	}
}

// P1.6: the errors of a line in their order, and the first line with an error.
func TestParseErrors(t *testing.T) {
	good := "table sun round 6 0 3 4\n"
	var full, over strings.Builder
	for i := range 17 {
		s := "table " + string(rune('a'+i)) + " row 1 0 0 0\n"
		over.WriteString(s)
		if i < 16 {
			full.WriteString(s)
		}
	}
	for _, x := range []struct {
		text string
		line int
		e    api.Errno
	}{
		{"table Sun round 60 0 3001 4 9 1\n", 0, api.ErrName},
		{"table - round 6 0 3 4\n", 0, api.ErrName},
		{"table abcdefghijklm round 6 0 3 4\n", 0, api.ErrName},
		{"table s\xffn round 6 0 3 4\n", 0, api.ErrName},
		{good + "table sun round 60 0 3001 4 9 1\n", 1, api.ErrShape},
		{good + "table sun round 0 0 0 0\n", 1, api.ErrShape},
		{good + "table sun row 999999999 999999999 0 0\n", 1, api.ErrShape},
		{good + "table sun round 6 0 3001 4 9\n", 1, api.ErrOpen},
		{good + "table sun round 6 0 3 4 1 0\n", 1, api.ErrOpen},
		{good + "table sun round 6 0 3001 4 1\n", 1, api.ErrArg},
		{good + "table sun round 6 0 3 1001\n", 1, api.ErrArg},
		{good + good, 1, api.ErrTwice},
		{good + good + "x\n", 1, api.ErrTwice},
		{good + "x\n" + good, 1, api.ErrForm},
		{over.String(), 16, api.ErrMany},
		{full.String() + "x\n", 16, api.ErrForm},
		{full.String() + "table Q row 1 0 0 0\n", 16, api.ErrName},
		{full.String() + "table q row 1 0 0 2000\n", 16, api.ErrArg},
		{full.String() + "table p row 1 0 0 0\n", 16, api.ErrTwice},
	} {
		if l, line, e := hall.Parse(x.text); len(l) != 0 || line != x.line || e != x.e {
			t.Errorf("Parse(%q) is %v, %d, %d, not %d, %d", x.text, l, line, e, x.line, x.e)
		}
	}
	if l, line, e := hall.Parse(full.String()); len(l) != 16 || line != 0 || e != api.OK {
		t.Error("16 tables", len(l), line, e)
	}
}

// P1.6: a text may have MaxText bytes and no more.
func TestParseLength(t *testing.T) {
	good := "table sun round 6 0 3 4\n"
	for _, x := range []struct {
		n    int
		line int
		e    api.Errno
	}{{api.MaxText - len(good), 1, api.ErrForm}, {api.MaxText - len(good) + 1, 0, api.ErrMany}} {
		if l, line, e := hall.Parse(good + strings.Repeat("\n", x.n)); len(l) != 0 || line != x.line || e != x.e {
			t.Error("text of about MaxText bytes:", line, e)
		}
	}
	// The longest line that still says something valid has far fewer bytes; here its numbers are not open seats.
	long := "table sun round 6 0 3 4" + strings.Repeat(" 0", (api.MaxText-len(good))/2)
	if len(long)+1 > api.MaxText {
		t.Fatal("the text is too long for this test")
	}
	if _, line, e := hall.Parse(long + "\n"); line != 0 || e != api.ErrOpen {
		t.Error("a line with many numbers:", line, e)
	}
}

// P1.6: a hall that is not valid has no text.
func TestFormatWrong(t *testing.T) {
	for what, l := range wrong() {
		if s := hall.Format(l); s != "" {
			t.Errorf("%s: %q", what, s)
		}
	}
	if hall.Format(nil) != "" || hall.Format([]api.Table{}) != "" {
		t.Error("text of a hall without tables")
	}
}

// P1.6: each shape is called by its word.
func TestWords(t *testing.T) {
	for i, word := range []string{"round", "long", "horseshoe", "row"} {
		for _, x := range sizes() {
			if x.Shape != api.Shape(i+1) {
				continue
			}
			want := "table mid " + word + " " + strconv.Itoa(x.A) + " " + strconv.Itoa(x.B) + " 0 0\n"
			if got := hall.Format([]api.Table{x}); got != want {
				t.Fatalf("%q, not %q", got, want)
			}
		}
	}
}
