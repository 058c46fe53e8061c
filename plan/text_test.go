package plan_test

import (
	"math/rand"
	"slices"
	"strconv"
	"strings"
	"testing"

	"trestle/api"
	"trestle/hall"
	"trestle/plan"
)

// P5.6: the chapter's example, and other texts and the partial plans that they tell of.
func TestTexts(t *testing.T) {
	for _, x := range []struct {
		text string
		part []int
	}{
		{"", []int{-1, -1, -1}},
		{"seat ann sun 2\nseat cid bar 1\n", []int{2, -1, 5}},
		{"seat ann bar 1\nseat bob bar 0\nseat cid sun 3\n", []int{5, 4, 3}},
		{"seat bob sun 0\n", []int{-1, 0, -1}},
	} {
		if got := plan.Format(dinner(), x.part); got != x.text {
			t.Errorf("Format(%v): %q", x.part, got)
		}
		lines := strings.SplitAfter(x.text, "\n")
		slices.Reverse(lines)
		for _, text := range []string{x.text, strings.Join(lines, "")} {
			if got, i, e := plan.Parse(dinner(), text); !slices.Equal(got, x.part) || i != 0 || e != api.OK {
				t.Errorf("Parse(%q): %v, %d, %d", text, got, i, e)
			}
		}
	}
	got, i, e := plan.Parse(api.Problem{}, "")
	if len(got) != 0 || i != 0 || e != api.OK || plan.Format(api.Problem{}, nil) != "" {
		t.Error("nobody in a hall without tables", got, i, e)
	}
	// Guests, tables and words may have the same names.
	p := api.Problem{Tables: []api.Table{{Name: "seat", Shape: api.Row, A: 11}, {Name: "bob", Shape: api.Row, A: 1}}, Guests: []api.Guest{{Name: "seat"}, {Name: "bob"}}}
	text := "seat seat bob 0\nseat bob seat 10\n"
	if got, i, e := plan.Parse(p, text); !slices.Equal(got, []int{11, 10}) || i != 0 || e != api.OK || plan.Format(p, got) != text {
		t.Error("names that are words", got, i, e)
	}
}

// P5.6: any partial plan has a line for each guest who is seated, in the order of guests; lines may come in any order.
func TestTextsOfAny(t *testing.T) {
	r := rand.New(rand.NewSource(9))
	for range 1000 {
		p := anyProblem(r, 8)
		part := anyPart(r, p, r.Intn(2) == 0)
		before := slices.Clone(part)
		var lines []string
		for g, seat := range part {
			if table, k, ok := hall.Where(p.Tables, seat); ok {
				lines = append(lines, "seat "+p.Guests[g].Name+" "+p.Tables[table].Name+" "+strconv.Itoa(k)+"\n")
			}
		}
		text := strings.Join(lines, "")
		if got := plan.Format(p, part); got != text {
			t.Fatalf("%v of %v: %q, not %q", part, p, got, text)
		}
		r.Shuffle(len(lines), func(i, k int) { lines[i], lines[k] = lines[k], lines[i] })
		if got, i, e := plan.Parse(p, strings.Join(lines, "")); !slices.Equal(got, part) || i != 0 || e != api.OK {
			t.Fatalf("%q: %v, %d, %d, not %v", lines, got, i, e, part)
		}
		if !slices.Equal(part, before) {
			t.Fatal("a partial plan is changed")
		}
	}
}

// P5.6: lines that do not have their form, alone and behind another one.
func TestParseForm(t *testing.T) {
	good := "seat cid bar 1"
	for _, line := range []string{
		"\n", " \n", "\n\n", good, "seat\n", "seat cid\n", "seat cid bar\n", "seat cid bar 1 2\n", "seat cid bar 1 \n", " " + good + "\n", "seat  cid bar 1\n", "seat cid  bar 1\n", "seat cid bar  1\n",
		"seat cid  1\n", "seat  bar 1\n", "seat cid bar \n", "sit cid bar 1\n", "Seat cid bar 1\n", "seats cid bar 1\n", "cid bar 1\n", "seat cid bar one\n", "seat cid 1 bar\n", "seat 1 cid bar\n",
		"seat\tcid bar 1\n", good + "\t\n", good + "\r\n", "seat cid bar -1\n", "seat cid bar -\n", "seat cid bar +1\n", "seat cid bar 01\n", "seat cid bar 00\n", "seat cid bar 1.0\n", "seat cid bar 0x1\n",
		"seat cid bar 1000000000\n", "seat cid bar 0000000001\n", "seat cid bar 99999999999999999999999999\n", "seat cid bar ١\n", "seat dan pub x\n", "seat dan pub 9", "\x00\n", "seat ann bar 0 1\n",
	} {
		for before := range 2 {
			text := strings.Repeat("seat ann bar 0\n", before) + line
			if got, i, e := plan.Parse(dinner(), text); len(got) != 0 || i != before || e != api.ErrForm {
				t.Errorf("Parse(%q): %v, %d, %d", text, got, i, e)
			}
		}
	}
}

// P5.6: the errors of a line in their order, and the first wrong line.
func TestParseErrors(t *testing.T) {
	for _, x := range []struct {
		text string
		line int
		e    api.Errno
	}{
		{"seat dan sun 0\n", 0, api.ErrUnknown},
		{"seat ann pub 0\n", 0, api.ErrUnknown},
		{"seat sun ann 0\n", 0, api.ErrUnknown},
		{"seat an sun 0\n", 0, api.ErrUnknown},
		{"seat - sun 0\n", 0, api.ErrUnknown},
		{"seat ann - 0\n", 0, api.ErrUnknown},
		{"seat ANN sun 0\n", 0, api.ErrUnknown},
		{"seat ann \xff 999999999\n", 0, api.ErrUnknown},
		{"seat dan sun 4\n", 0, api.ErrUnknown},
		{"seat ann pub 999999999\n", 0, api.ErrUnknown},
		{"seat ann sun 4\n", 0, api.ErrSeat},
		{"seat ann bar 2\n", 0, api.ErrSeat},
		{"seat ann bar 5\n", 0, api.ErrSeat},
		{"seat ann bar 999999999\n", 0, api.ErrSeat},
		{"seat ann sun 0\nseat ann sun 0\n", 1, api.ErrTwice},
		{"seat ann sun 0\nseat ann sun 1\n", 1, api.ErrTwice},
		{"seat ann sun 0\nseat ann sun 4\n", 1, api.ErrSeat},
		{"seat ann sun 0\nseat bob sun 0\n", 1, api.ErrTaken},
		{"seat ann sun 0\nseat bob bar 0\nseat ann bar 0\n", 2, api.ErrTwice},
		{"seat ann sun 0\nseat bob bar 0\nseat cid bar 0\n", 2, api.ErrTaken},
		{"seat ann sun 0\nseat dan sun 0\n", 1, api.ErrUnknown},
		{"seat ann sun 0\nseat ann pub 0\n", 1, api.ErrUnknown},
		{"seat ann sun 0\nseat bob sun 1\nseat cid sun 2\nseat dan sun 3\n", 3, api.ErrUnknown},
		{"seat ann sun 0\nseat bob sun 9\nseat ann sun 0\nseat", 1, api.ErrSeat},
		{"seat dan sun 0\nseat ann\n", 0, api.ErrUnknown},
	} {
		if got, i, e := plan.Parse(dinner(), x.text); len(got) != 0 || i != x.line || e != x.e {
			t.Errorf("Parse(%q): %v, %d, %d, not %d, %d", x.text, got, i, e, x.line, x.e)
		}
	}
}

// P5.6: the limit of a text's length, which comes before its lines and behind the problem.
func TestParseLimit(t *testing.T) {
	for _, x := range []struct {
		text string
		line int
		e    api.Errno
	}{
		{strings.Repeat("a", api.MaxText), 0, api.ErrForm},
		{strings.Repeat("a", api.MaxText+1), 0, api.ErrMany},
		{"seat ann sun 0\n" + strings.Repeat("\n", api.MaxText-15), 1, api.ErrForm},
		{"seat ann sun 0\n" + strings.Repeat("\n", api.MaxText-14), 0, api.ErrMany},
		{"seat ann sun 0\nseat " + strings.Repeat("b", api.MaxText-28) + " sun 1\n", 1, api.ErrUnknown},
	} {
		if got, i, e := plan.Parse(dinner(), x.text); len(got) != 0 || i != x.line || e != x.e {
			t.Errorf("Parse(%.20q.., %d bytes): %v, %d, %d", x.text, len(x.text), got, i, e)
		}
	}
	for _, x := range fails() {
		for _, text := range []string{"", "seat ann sun 0\n", "seat ann sun 0\nseat\n", strings.Repeat("a", api.MaxText+1)} {
			if got, i, e := plan.Parse(x.p, text); len(got) != 0 || i != 0 || e != x.e {
				t.Errorf("Parse(%v, %.20q): %v, %d, %d", x.p, text, got, i, e)
			}
		}
	}
}

// P5.6: there is no text without a valid problem and partial plan.
func TestNoText(t *testing.T) {
	for _, x := range fails() {
		for _, part := range [][]int{{0, 1, 2}, {-1, -1, 0}, {0, 1, 2, 3, 4, 5, -1}} {
			if got := plan.Format(x.p, part); got != "" {
				t.Errorf("Format(%v, %v): %q", x.p, part, got)
			}
		}
	}
	for _, part := range [][]int{nil, {0, 1}, {0, 1, 2, 3}, {0, 1, 6}, {0, 1, -2}, {0, 1, 1}} {
		if got := plan.Format(dinner(), part); got != "" {
			t.Errorf("Format(%v): %q", part, got)
		}
	}
}
